/- What the walks of stage 14 share. -/
import Derived.Test.YthmcjehpmfebaaaReadyK
import Derived.Test.YthmcjehpmfebaaaPlainReadyB
import Derived.Test.YthmcjehpmfebaaaFlat
import Derived.Test.YthmcjehpmfebaaaEntL
import Derived.Test.YthmcjehpmfebaaaLogM
namespace Go.Proofs.Ythmcjehpmfebaaa
open Go.RowKit PReady

/-- The cells of the op of number i. -/
theorem Rd.op {w : World} {B c n : Nat} {A : Option Addr} {z : List Value} (h : Rd w B A c 3 n z) (hI : AllI z) {i : Nat} (hi : i < n) : ∃ b o x y t, A = some ⟨b, o, none⟩ ∧ b < B ∧
    w.cell? ⟨b, o + i * 3, none⟩ = some (.int .i64 x) ∧ w.cell? ⟨b, o + i * 3 + 1, none⟩ = some (.int .i64 y) ∧ w.cell? ⟨b, o + i * 3 + 2, none⟩ = some (.int .i64 t) ∧
    (-9223372036854775808 ≤ x ∧ x ≤ 9223372036854775807) ∧ (-9223372036854775808 ≤ y ∧ y ≤ 9223372036854775807) ∧ (-9223372036854775808 ≤ t ∧ t ≤ 9223372036854775807) := by
  obtain ⟨b, o, hA, hb, hc⟩ := h.flat hi (by omega)
  obtain ⟨u0, h0, c0⟩ := hc 0 (by omega)
  obtain ⟨u1, h1, c1⟩ := hc 1 (by omega)
  obtain ⟨u2, h2, c2⟩ := hc 2 (by omega)
  obtain ⟨x, rfl, wx⟩ := hI _ _ h0
  obtain ⟨y, rfl, wy⟩ := hI _ _ h1
  obtain ⟨t, rfl, wt⟩ := hI _ _ h2
  exact ⟨b, o, x, y, t, hA, hb, c0, c1, c2, bounds_i64 wx, bounds_i64 wy, bounds_i64 wt⟩
/-- A new queue beside a list. -/
theorem Sx.made {w0 w3 w4 : World} {B c n : Nat} {A : Option Addr} {l : List Ent} (h : Rd w3 B A c 7 n (els l)) (b : Below w0.heap.size w0 w3) (q : Qu w4 w3.heap.size [w3.heap.size] []) (b4 : Below w3.heap.size w3 w4) : Sx w0 w4 w3.heap.size [w3.heap.size] [] A c n l :=
  ⟨q, fun k hk => by rw [List.mem_singleton.1 hk]; exact b.size, b.trans (b4.mono b.size), (h.past b4).tight, fun hz k hk e => by
    rw [List.mem_singleton.1 hk] at e
    obtain ⟨b', o, hA, hb, _⟩ := h.tight.2.2.2.2 hz
    rw [hA] at e
    have : b' = w3.heap.size := by simpa [bk] using e
    omega⟩
/-- What a law's list is. -/
structure LL (l : List Ent) (m : Nat) : Prop where
  may : ∀ e ∈ l, PEnt.may e = true
  ap : Apart l
  le : l.length ≤ m
theorem LL.fit {l : List Ent} {m : Nat} (h : LL l m) : ∀ e ∈ l, PEnt.Fit e := fun e he => ((PEnt.may_iff e).1 (h.may e he)).fit
theorem LL.log (es : List Ent) {m : Nat} (h : es.length ≤ m) : LL (PLog.log es) m := ⟨log_may es, log_apart es, Nat.le_trans (log_len es) h⟩
/-- One queue's state in a law: so many were told. -/
structure Sy (w0 w : World) (g : Nat) (F : List Nat) (T : List Tl) (A : Option Addr) (c : Nat) (l : List Ent) : Prop where
  sx : Sx w0 w g F T A c l.length l
  cnt : T.length + unt T l = l.length
theorem Sy.go {w0 w : World} {g : Nat} {F : List Nat} {T : List Tl} {A : Option Addr} {c m : Nat} {l : List Ent} (h : Sy w0 w g F T A c l) (hl : LL l m) (hm : m ≤ 60) (commit now : Int) :
    Calls Try.prog 17 #[.pointer (some ⟨g, 0, none⟩), .slice A l.length c, .int .i64 commit, .int .i64 now] w fun x w' => ∃ A' c' F', x = .returned (.slice A' (PReady.go commit now T l).length c') ∧
      w'.ownsRow w.heap.size 44 8 (.slice A' (PReady.go commit now T l).length c') (PReady.go commit now T l).length (tls (PReady.go commit now T l)) ∧ Sy w0 w' g F' (T ++ PReady.go commit now T l) A c l ∧ Below w0.heap.size w w' := by
  have hle := hl.le
  have hc := h.cnt
  refine (h.sx.go hl.fit hl.ap (by omega) (by omega) commit now).mono ?_
  rintro x w' ⟨A', c', F', rfl, ho, hs, -, ht⟩
  exact ⟨A', c', F', rfl, ho, ⟨hs, go_count hl.ap hc⟩, ht.below h.sx.low h.sx.bel.size⟩
theorem Sy.past {w0 w w' : World} {g : Nat} {F : List Nat} {T : List Tl} {A : Option Addr} {c : Nat} {l : List Ent} (h : Sy w0 w g F T A c l) (hb : Below w.heap.size w w') : Sy w0 w' g F T A c l := ⟨h.sx.past hb, h.cnt⟩
theorem Sy.drew {w0 w : World} {g : Nat} {F : List Nat} {T : List Tl} {A : Option Addr} {c : Nat} {l : List Ent} (h : Sy w0 w g F T A c l) : Sy w0 w.drew g F T A c l := ⟨h.sx.drew, h.cnt⟩
end Go.Proofs.Ythmcjehpmfebaaa
