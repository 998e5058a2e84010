/- Contracts of isIn, bit, numbersOf, msgOf, mayEntries. -/
import Derived.Test.YtfijjdahoimoeaaDoorSeg2
import Derived.Test.YtfijjdahoimoeaaDoorRows
import Derived.Test.YtfijjdahoimoeaaDoorSeg1
import Derived.Laws.BitsAllLaws
import Derived.Laws.Bits128
import Derived.BigQuiet
import Derived.Deep.QuietTactic
namespace Go.Proofs.YtfijjdahoimoeaaDoor
open Go.RowKit

theorem wIsIn_c (w : World) (n lo hi : Int) :
    Calls Tryd.prog 54 #[.int .i64 n, .int .i64 lo, .int .i64 hi] w fun e w' => e = .returned (.bool (decide (lo ≤ n ∧ n ≤ hi))) ∧ w = w' := by
  obtain ⟨r, HR⟩ : ∃ r, decide (lo ≤ n ∧ n ≤ hi) = r := ⟨_, rfl⟩
  rw [HR]
  by_cases h1 : lo ≤ n
  · by_cases h2 : n ≤ hi
    · have H := Lib.hid (HR.symm.trans (decide_eq_true (And.intro h1 h2)))
      clear HR
      go_enter Tryd.func54, Tryd.ntmps54
      go_wp2
      go_ret
      exact ⟨by rw [H.out]; rfl, rfl⟩
    · have H := Lib.hid (HR.symm.trans (decide_eq_false (fun h : lo ≤ n ∧ n ≤ hi => h2 h.2)))
      clear HR
      go_enter Tryd.func54, Tryd.ntmps54
      go_wp2
      go_ret
      exact ⟨by rw [H.out]; rfl, rfl⟩
  · have H := Lib.hid (HR.symm.trans (decide_eq_false (fun h : lo ≤ n ∧ n ≤ hi => h1 h.1)))
    clear HR
    go_enter Tryd.func54, Tryd.ntmps54
    go_wp2
    go_ret
    exact ⟨by rw [H.out]; rfl, rfl⟩

theorem bit_c (w : World) (b : Bool) : Calls Tryd.prog 57 #[.bool b] w fun e w' => e = .returned (.int .i64 (PMsg.bit b)) ∧ w = w' := by
  cases b
  all_goals
    go_enter Tryd.func57, Tryd.ntmps57
    go_wp2
    go_ret
    exact ⟨rfl, rfl⟩

set_option maxHeartbeats 4000000 in
set_option maxRecDepth 100000 in
theorem wNums_c (w : World) (m : Msg) (A : Option Addr) (c : Nat) : Calls Tryd.prog 40 #[mv m A c] w fun x w' => x = .returned (nv13 (PMsg.ns m)) ∧ Below w.heap.size w w' := by
  obtain ⟨kind, fr, dst, boot, view, last, mem, pos, es, com, num, clk, yes⟩ := m
  have W1 := Lib.hid ((Below.refl w.heap.size w).alloc (Nat.le_refl _) (.cells #[.int .i64 kind, .int .i64 fr, .int .i64 dst, .int .i64 boot, .int .i64 view, .int .i64 last, .int .i64 mem, .int .i64 pos, .slice A es.length c, .int .i64 com, .int .i64 num, .int .i64 clk, .bool yes] 30))
  have K0 := Blk.new w #[.int .i64 kind, .int .i64 fr, .int .i64 dst, .int .i64 boot, .int .i64 view, .int .i64 last, .int .i64 mem, .int .i64 pos, .slice A es.length c, .int .i64 com, .int .i64 num, .int .i64 clk, .bool yes] 30
  show Calls _ _ #[.agg #[.int .i64 kind, .int .i64 fr, .int .i64 dst, .int .i64 boot, .int .i64 view, .int .i64 last, .int .i64 mem, .int .i64 pos, .slice A es.length c, .int .i64 com, .int .i64 num, .int .i64 clk, .bool yes]] _ _
  go_enter Tryd.func40, Tryd.ntmps40
  go_wp2_with fail
  have hs : (w.alloc (.cells #[.int .i64 kind, .int .i64 fr, .int .i64 dst, .int .i64 boot, .int .i64 view, .int .i64 last, .int .i64 mem, .int .i64 pos, .slice A es.length c, .int .i64 com, .int .i64 num, .int .i64 clk, .bool yes] 30)).heap.size = w.heap.size + 1 := by simp
  generalize w.alloc (.cells #[.int .i64 kind, .int .i64 fr, .int .i64 dst, .int .i64 boot, .int .i64 view, .int .i64 last, .int .i64 mem, .int .i64 pos, .slice A es.length c, .int .i64 com, .int .i64 num, .int .i64 clk, .bool yes] 30) = w1 at *
  have W2 := Lib.hid (W1.out.trans (((Below.refl w1.heap.size w1).alloc (Nat.le_refl _) (.cells #[.int .i64 0, .int .i64 0, .int .i64 0, .int .i64 0, .int .i64 0, .int .i64 0, .int .i64 0, .int .i64 0, .int .i64 0, .int .i64 0, .int .i64 0, .int .i64 0, .int .i64 0] 80)).mono W1.out.size))
  have K1 := K0.alloc (.cells #[.int .i64 0, .int .i64 0, .int .i64 0, .int .i64 0, .int .i64 0, .int .i64 0, .int .i64 0, .int .i64 0, .int .i64 0, .int .i64 0, .int .i64 0, .int .i64 0, .int .i64 0] 80)
  have K2 := Blk.new w1 #[.int .i64 0, .int .i64 0, .int .i64 0, .int .i64 0, .int .i64 0, .int .i64 0, .int .i64 0, .int .i64 0, .int .i64 0, .int .i64 0, .int .i64 0, .int .i64 0, .int .i64 0] 80
  rw [hs] at K2
  have S2 : (w1.alloc (.cells #[.int .i64 0, .int .i64 0, .int .i64 0, .int .i64 0, .int .i64 0, .int .i64 0, .int .i64 0, .int .i64 0, .int .i64 0, .int .i64 0, .int .i64 0, .int .i64 0, .int .i64 0] 80)).heap.size = w.heap.size + 2 := by simp [hs]
  generalize w1.alloc (.cells #[.int .i64 0, .int .i64 0, .int .i64 0, .int .i64 0, .int .i64 0, .int .i64 0, .int .i64 0, .int .i64 0, .int .i64 0, .int .i64 0, .int .i64 0, .int .i64 0, .int .i64 0] 80) = w2 at *
  clear K0
  have KM := Lib.hid K1
  have KN := Lib.hid K2
  clear K1 K2 hs
-- REGION curfew/wire.numbersOf 1 wnums1 2
  refine Hb.beginB (B := w.heap.size + 1) ?_
  refine Hb.take 0 3 rfl ?_ (fun w' hw' => by go_simp; first | done | rfl)
  refine Hb.take (v := .int .i64 kind) 1 4 rfl ?_ (fun w' hw' => by have hc := (KM.out.drew.below hw' (Nat.lt_succ_self _)).cell (i := 0) rfl; go_simp)
  refine Hb.take 2 5 rfl ?_ (fun w' hw' => by go_simp; first | done | rfl)
  refine Hb.take (v := .int .i64 fr) 3 6 rfl ?_ (fun w' hw' => by have hc := (KM.out.drew.below hw' (Nat.lt_succ_self _)).cell (i := 1) rfl; go_simp)
  refine Hb.take 4 7 rfl ?_ (fun w' hw' => by go_simp; first | done | rfl)
  refine Hb.take (v := .int .i64 dst) 5 8 rfl ?_ (fun w' hw' => by have hc := (KM.out.drew.below hw' (Nat.lt_succ_self _)).cell (i := 2) rfl; go_simp)
  refine Hb.take 6 9 rfl ?_ (fun w' hw' => by go_simp; first | done | rfl)
  refine Hb.take (v := .int .i64 boot) 7 10 rfl ?_ (fun w' hw' => by have hc := (KM.out.drew.below hw' (Nat.lt_succ_self _)).cell (i := 3) rfl; go_simp)
  refine Hb.take 8 11 rfl ?_ (fun w' hw' => by go_simp; first | done | rfl)
  refine Hb.take (v := .int .i64 view) 9 12 rfl ?_ (fun w' hw' => by have hc := (KM.out.drew.below hw' (Nat.lt_succ_self _)).cell (i := 4) rfl; go_simp)
  refine Hb.take 10 13 rfl ?_ (fun w' hw' => by go_simp; first | done | rfl)
  refine Hb.take (v := .int .i64 last) 11 14 rfl ?_ (fun w' hw' => by have hc := (KM.out.drew.below hw' (Nat.lt_succ_self _)).cell (i := 5) rfl; go_simp)
  refine Hb.take 12 15 rfl ?_ (fun w' hw' => by go_simp; first | done | rfl)
  refine Hb.take (v := .int .i64 mem) 13 16 rfl ?_ (fun w' hw' => by have hc := (KM.out.drew.below hw' (Nat.lt_succ_self _)).cell (i := 6) rfl; go_simp)
  refine Hb.take 14 17 rfl ?_ (fun w' hw' => by go_simp; first | done | rfl)
  refine Hb.take (v := .int .i64 pos) 15 18 rfl ?_ (fun w' hw' => by have hc := (KM.out.drew.below hw' (Nat.lt_succ_self _)).cell (i := 7) rfl; go_simp)
  refine Hb.take 16 19 rfl ?_ (fun w' hw' => by go_simp; first | done | rfl)
  refine Hb.take (v := .int .i64 com) 17 20 rfl ?_ (fun w' hw' => by have hc := (KM.out.drew.below hw' (Nat.lt_succ_self _)).cell (i := 9) rfl; go_simp)
  refine Hb.take 18 21 rfl ?_ (fun w' hw' => by go_simp; first | done | rfl)
  refine Hb.take (v := .int .i64 num) 19 22 rfl ?_ (fun w' hw' => by have hc := (KM.out.drew.below hw' (Nat.lt_succ_self _)).cell (i := 10) rfl; go_simp)
  refine Hb.take 20 23 rfl ?_ (fun w' hw' => by go_simp; first | done | rfl)
  refine Hb.take (v := .int .i64 clk) 21 24 rfl ?_ (fun w' hw' => by have hc := (KM.out.drew.below hw' (Nat.lt_succ_self _)).cell (i := 11) rfl; go_simp)
  refine Hb.take 22 25 rfl ?_ (fun w' hw' => by go_simp; first | done | rfl)
  refine Hb.take (v := .bool yes) 23 26 rfl ?_ (fun w' hw' => by have hc := (KM.out.drew.below hw' (Nat.lt_succ_self _)).cell (i := 12) rfl; go_simp)
  refine Hb.take 25 28 rfl ?_ (fun w' hw' => by go_simp; first | done | rfl)
  refine Hb.take (v := .slice A es.length c) 26 29 rfl ?_ (fun w' hw' => by have hc := (KM.out.drew.below hw' (Nat.lt_succ_self _)).cell (i := 8) rfl; go_simp)
  refine Hb.take (v := .int .i64 (es.length : Int)) 27 30 rfl ?_ (fun w' hw' => by go_simp; first | done | rfl | omega | exact wrap_in (by omega) (by omega) | exact Int.tmod_eq_emod_of_nonneg (by omega) | exact Int.tdiv_eq_ediv_of_nonneg (by omega) | (simp; omega))
  refine Hb.call (f := 57) (args := #[.bool yes]) 24 27 rfl ?_ (run_callf Tryd.func57 (by kernel_rfl) (by kernel_rfl) (by simp only [List.map_toArray, List.map_cons, List.map_nil]; rfl))
  refine (bit_c _ yes).mono ?_
  rintro x w3 ⟨rfl, rfl⟩
  refine Hb.back (Below.refl _ _) (Nat.le_refl _) ?_
  refine Hb.take (v := .agg #[.int .i64 kind, .int .i64 fr, .int .i64 dst, .int .i64 boot, .int .i64 view, .int .i64 last, .int .i64 mem, .int .i64 pos, .int .i64 com, .int .i64 num, .int .i64 clk, .int .i64 (PMsg.bit yes), .int .i64 (es.length : Int)]) 28 31 rfl ?_ (fun w' hw' => by go_simp; first | done | rfl | omega | exact wrap_in (by omega) (by omega) | exact Int.tmod_eq_emod_of_nonneg (by omega) | exact Int.tdiv_eq_ediv_of_nonneg (by omega) | (simp; omega))
  refine Hb.only 29 none rfl ?_
  refine wpList_store_row rfl 80 _ _ rfl (w.heap.size + 1) _ rfl rfl _ _ KN.out (by kernel_rfl) (by rfl) (by kernel_rfl) ?_
  have KN2 := Lib.hid (KN.out.drew.row #[.int .i64 kind, .int .i64 fr, .int .i64 dst, .int .i64 boot, .int .i64 view, .int .i64 last, .int .i64 mem, .int .i64 pos, .int .i64 com, .int .i64 num, .int .i64 clk, .int .i64 (PMsg.bit yes), .int .i64 (es.length : Int)])
  have GB := Lib.hid (((Below.refl (w.heap.size + 1) w2.drew).grown (grown_row w2.drew (w.heap.size + 1) #[.int .i64 kind, .int .i64 fr, .int .i64 dst, .int .i64 boot, .int .i64 view, .int .i64 last, .int .i64 mem, .int .i64 pos, .int .i64 com, .int .i64 num, .int .i64 clk, .int .i64 (PMsg.bit yes), .int .i64 (es.length : Int)]) (by show _ ≤ w2.heap.size; omega) (fun k hk => by cases hk; exact Nat.le_refl _)))
  refine Hb.next GB.out (Nat.le_refl _) ?_ rfl
  refine Hb.done ?_
-- END
  go_wp2_with fail
  refine bodyPost_ret (v := nv13 (PMsg.ns ⟨kind, fr, dst, boot, view, last, mem, pos, es, com, num, clk, yes⟩)) (results_cell_row rfl _ _ (w.heap.size + 1) _ _ _ _ rfl KN2.out Tryd.underlying80 rfl (by kernel_rfl)) rfl ⟨rfl, ?_⟩
  exact W2.out.drew.trans (GB.out.mono (Nat.le_succ _))

set_option maxHeartbeats 4000000 in
set_option maxRecDepth 100000 in
theorem wOf_c (w : World) (x0 x1 x2 x3 x4 x5 x6 x7 x8 x9 x10 x11 x12 : Int) (l : List Ent) (A : Option Addr) (c : Nat) :
    Calls Tryd.prog 38 #[.agg #[.int .i64 x0, .int .i64 x1, .int .i64 x2, .int .i64 x3, .int .i64 x4, .int .i64 x5, .int .i64 x6, .int .i64 x7, .int .i64 x8, .int .i64 x9, .int .i64 x10, .int .i64 x11, .int .i64 x12], .slice A l.length c] w fun x w' => x = .returned (mv (PMsg.ofN [x0, x1, x2, x3, x4, x5, x6, x7, x8, x9, x10, x11, x12] l) A c) ∧ Below w.heap.size w w' := by
  go_enter Tryd.func38, Tryd.ntmps38
  go_wp2_with fail
  have K := Blk.new (w.alloc (.cells #[.int .i64 x0, .int .i64 x1, .int .i64 x2, .int .i64 x3, .int .i64 x4, .int .i64 x5, .int .i64 x6, .int .i64 x7, .int .i64 x8, .int .i64 x9, .int .i64 x10, .int .i64 x11, .int .i64 x12] 80)) #[.int .i64 x0, .int .i64 x1, .int .i64 x2, .int .i64 x3, .int .i64 x4, .int .i64 x5, .int .i64 x6, .int .i64 x7, .slice A l.length c, .int .i64 x8, .int .i64 x9, .int .i64 x10, .bool (x11 == 1)] 30
  rw [show (w.alloc (.cells #[.int .i64 x0, .int .i64 x1, .int .i64 x2, .int .i64 x3, .int .i64 x4, .int .i64 x5, .int .i64 x6, .int .i64 x7, .int .i64 x8, .int .i64 x9, .int .i64 x10, .int .i64 x11, .int .i64 x12] 80)).heap.size = w.heap.size + 1 by simp] at K
  refine bodyPost_ret (v := mv (PMsg.ofN [x0, x1, x2, x3, x4, x5, x6, x7, x8, x9, x10, x11, x12] l) A c) (results_cell_row rfl _ _ (w.heap.size + 1) _ _ _ _ rfl K Tryd.underlying30 rfl (by kernel_rfl)) rfl ⟨rfl, ((Below.refl _ _).alloc (Nat.le_refl _) _).alloc (by simp) _⟩
end Go.Proofs.YtfijjdahoimoeaaDoor

/- An int's cells in the program. -/
namespace Go.Proofs.YtfijjdahoimoeaaDoor
open Go.RowKit

theorem int_info : (Tryd.prog.info? 3).map (fun i => (i.zero, i.size, i.bytes)) = some (some (.int .i64 0), 1, 8) := by kernel_rfl

/-- Ints, as cells. -/
def is (l : List Int) : List Value := l.map (Value.int .i64)
theorem is_length (l : List Int) : (is l).length = l.length := by simp [is]
theorem is_append (l m : List Int) : is (l ++ m) = is l ++ is m := by simp [is]
theorem is_one (l : List Int) : ∀ u ∈ is l, u.oneCell' = true := ints_oneCell .i64 l
theorem is_getD (l : List Int) (i : Nat) (h : i < l.length) : (is l).getD i undef = .int .i64 (l.getD i 0) := by
  simp [is, List.getD, List.getElem?_map, List.getElem?_eq_getElem h]
theorem is_take (l : List Int) (i : Nat) : is (l.take i) = (is l).take i := by simp [is]
theorem is_drop (l : List Int) (i : Nat) : is (l.drop i) = (is l).drop i := by simp [is]
theorem Rd.ilen {w : World} {B : Nat} {A : Option Addr} {c n : Nat} {l : List Int} (h : Rd w B A c 1 n (is l)) : l.length = n := by
  have := h.len; rw [is_length] at this; omega
theorem Rd.int {w : World} {B : Nat} {A : Option Addr} {c n : Nat} {l : List Int} (h : Rd w B A c 1 n (is l)) {i : Nat} (hi : i < n) :
    ∃ b o x, A = some ⟨b, o, none⟩ ∧ w.cell? ⟨b, o + i, none⟩ = some (.int .i64 x) ∧ l.drop i = x :: l.drop (i + 1) ∧ x = l.getD i 0 := by
  have hl : i < l.length := by have := h.ilen; omega
  obtain ⟨b, o, hA, _, hc⟩ := h.at_ hi
  refine ⟨b, o, l[i], hA, ?_, List.drop_eq_getElem_cons hl, by simp [List.getD, List.getElem?_eq_getElem hl]⟩
  rw [hc, is_getD _ _ hl]
  simp [List.getD, List.getElem?_eq_getElem hl]

end Go.Proofs.YtfijjdahoimoeaaDoor

/- Plain mathematics of teams: bits of numbers below 128. No program is named here. -/
namespace Go.Proofs.YtfijjdahoimoeaaDoor.PTeam

/-- The team of one. -/
def one (id : Int) : Nat := if 1 ≤ id ∧ id ≤ 7 then 2 ^ (id - 1).toNat else 0
def has (t : Nat) (id : Int) : Bool := decide (t &&& one id ≠ 0)
def wth (t : Nat) (id : Int) : Nat := t ||| one id
def wout (t : Nat) (id : Int) : Nat := t &&& (127 - one id)
def cnt (t : Nat) : Nat := (List.range 7).countP fun i => t.testBit i
def lstTo (t k : Nat) : List Int := ((List.range k).filter fun i => t.testBit i).map fun i : Nat => (i : Int) + 1
def lst (t : Nat) : List Int := lstTo t 7
def may (t n : Int) : Bool := decide (3 ≤ n ∧ n ≤ 7) && decide (0 ≤ t ∧ t < 2 ^ n.toNat)
def most (t n : Int) : Bool := may t n && decide (n / 2 < (cnt t.toNat : Int))
def decider (v n : Int) : Int := if v < 1 ∨ n < 3 ∨ 7 < n then 0 else 1 + (v - 1) % n
/-- Those of a list. -/
def ofL (l : List Int) : Nat := l.foldl wth 0

theorem one_cases (id : Int) : (one id = 0 ∧ (id < 1 ∨ 7 < id)) ∨ ∃ k : Nat, k < 7 ∧ id = k + 1 ∧ one id = 2 ^ k := by
  unfold one
  by_cases h : 1 ≤ id ∧ id ≤ 7
  · exact .inr ⟨(id - 1).toNat, by omega, by omega, by rw [if_pos h]⟩
  · exact .inl ⟨by rw [if_neg h], by omega⟩
theorem pow_lt (k : Nat) (hk : k < 7) : 2 ^ k < 128 := (by decide : ∀ k : Fin 7, 2 ^ k.val < 128) ⟨k, hk⟩
theorem one_lt (id : Int) : one id < 128 := by
  rcases one_cases id with ⟨h, _⟩ | ⟨k, hk, _, h⟩
  · omega
  · rw [h]; exact pow_lt k hk
theorem one_out {id : Int} (h : id < 1 ∨ 7 < id) : one id = 0 := by unfold one; rw [if_neg (by omega)]
theorem one_in (k : Nat) (h : k < 7) : one ((k : Int) + 1) = 2 ^ k := by
  unfold one; rw [if_pos (by omega)]; congr 1; omega
theorem and_lt {t : Nat} (u : Nat) (h : t < 128) : t &&& u < 128 := Nat.lt_of_le_of_lt Nat.and_le_left h
theorem and_lt' {u : Nat} (t : Nat) (h : u < 128) : t &&& u < 128 := Nat.lt_of_le_of_lt Nat.and_le_right h
theorem or_lt {t u : Nat} (h : t < 128) (h' : u < 128) : t ||| u < 128 := Nat.or_lt_two_pow (n := 7) h h'
theorem wth_lt {t : Nat} (h : t < 128) (id : Int) : wth t id < 128 := or_lt h (one_lt id)
theorem wout_lt {t : Nat} (h : t < 128) (id : Int) : wout t id < 128 := and_lt _ h
theorem ofL_lt (l : List Int) : ofL l < 128 := by
  have : ∀ (l : List Int) (t : Nat), t < 128 → l.foldl wth t < 128 := by
    intro l
    induction l with
    | nil => intro t h; exact h
    | cons x l ih => intro t h; exact ih _ (wth_lt h x)
  exact this l 0 (by omega)

/-- Of all teams and all processes: by looking at each. -/
theorem all7 (p : Nat → Nat → Bool) (h : (List.range 128).all (fun t => (List.range 7).all fun k => p t k) = true) (t k : Nat) (ht : t < 128) (hk : k < 7) : p t k = true :=
  List.all_eq_true.1 (List.all_eq_true.1 h t (List.mem_range.2 ht)) k (List.mem_range.2 hk)
theorem all1 (p : Nat → Bool) (h : (List.range 128).all p = true) (t : Nat) (ht : t < 128) : p t = true :=
  List.all_eq_true.1 h t (List.mem_range.2 ht)

theorem has_out (t : Nat) {id : Int} (h : id < 1 ∨ 7 < id) : has t id = false := by unfold has; rw [one_out h]; simp
theorem has_in (t k : Nat) (ht : t < 128) (h : k < 7) : has t ((k : Int) + 1) = t.testBit k := by
  unfold has; rw [one_in k h]
  have := all7 (fun t k => decide (t &&& 2 ^ k ≠ 0) == t.testBit k) (by decide +kernel) t k ht h
  simpa using this
theorem has_bits (t : Nat) (ht : t < 128) (id : Int) : has t id = (decide (1 ≤ id ∧ id ≤ 7) && t.testBit (id - 1).toNat) := by
  by_cases h : 1 ≤ id ∧ id ≤ 7
  · obtain ⟨k, rfl⟩ : ∃ k : Nat, id = k + 1 := ⟨(id - 1).toNat, by omega⟩
    rw [has_in t k ht (by omega)]
    have : ((k : Int) + 1 - 1).toNat = k := by omega
    rw [this]; simp [h]
  · rw [has_out t (by omega)]; simp [h]

theorem bit_one (id : Int) (k : Nat) (hk : k < 7) : (one id).testBit k = decide (id = k + 1) := by
  rcases one_cases id with ⟨h, h'⟩ | ⟨j, hj, rfl, h⟩
  · rw [h]; simp; omega
  · rw [h, Nat.testBit_two_pow]
    by_cases e : j = k
    · subst e; simp
    · simp [e]; omega
theorem has_wth (t : Nat) (ht : t < 128) (id i : Int) (h1 : 1 ≤ i) (h7 : i ≤ 7) : has (wth t id) i = (has t i || decide (i = id)) := by
  obtain ⟨k, rfl⟩ : ∃ k : Nat, i = k + 1 := ⟨(i - 1).toNat, by omega⟩
  rw [has_in _ k (wth_lt ht id) (by omega), has_in _ k ht (by omega)]
  unfold wth
  rw [Nat.testBit_or, bit_one id k (by omega)]
  congr 1
  exact decide_eq_decide.2 ⟨fun h => h.symm, fun h => h.symm⟩
theorem bit_not (o k : Nat) (ho : o < 128) (hk : k < 7) : (127 - o).testBit k = !o.testBit k := by
  have := all7 (fun o k => (127 - o).testBit k == !o.testBit k) (by decide +kernel) o k ho hk
  simpa using this
theorem has_wout (t : Nat) (ht : t < 128) (id i : Int) (h1 : 1 ≤ i) (h7 : i ≤ 7) : has (wout t id) i = (has t i && decide (i ≠ id)) := by
  obtain ⟨k, rfl⟩ : ∃ k : Nat, i = k + 1 := ⟨(i - 1).toNat, by omega⟩
  rw [has_in _ k (wout_lt ht id) (by omega), has_in _ k ht (by omega)]
  unfold wout
  rw [Nat.testBit_and, bit_not _ k (one_lt id) (by omega), bit_one id k (by omega)]
  congr 1
  by_cases h : id = k + 1
  · simp [h]
  · have : ¬ (k : Int) + 1 = id := by omega
    simp [h, this]
theorem has_and (t u : Nat) (ht : t < 128) (hu : u < 128) (i : Int) (h1 : 1 ≤ i) (h7 : i ≤ 7) : has (t &&& u) i = (has t i && has u i) := by
  obtain ⟨k, rfl⟩ : ∃ k : Nat, i = k + 1 := ⟨(i - 1).toNat, by omega⟩
  rw [has_in _ k (and_lt u ht) (by omega), has_in _ k ht (by omega), has_in _ k hu (by omega), Nat.testBit_and]
theorem has_ofL (l : List Int) (i : Int) (h1 : 1 ≤ i) (h7 : i ≤ 7) : has (ofL l) i = l.contains i := by
  have : ∀ (l : List Int) (t : Nat), t < 128 → has (l.foldl wth t) i = (has t i || l.contains i) := by
    intro l
    induction l with
    | nil => intro t h; simp
    | cons x l ih =>
      intro t h
      rw [List.foldl_cons, ih _ (wth_lt h x), has_wth t h x i h1 h7, Bool.or_assoc]
      congr 1
  have h0 := this l 0 (by omega)
  unfold ofL
  rw [h0]
  have : has 0 i = false := by simp [has]
  rw [this, Bool.false_or]

theorem and127 (t : Nat) (ht : t < 128) : t &&& 127 = t := (Nat.and_two_pow_sub_one_eq_mod t 7).trans (Nat.mod_eq_of_lt ht)
theorem cnt_le (t : Nat) : cnt t ≤ 7 := by unfold cnt; exact Nat.le_trans List.countP_le_length (by simp)
theorem cnt_wth (t : Nat) (ht : t < 128) (id : Int) : cnt (wth t id) = if decide (1 ≤ id ∧ id ≤ 7) && !has t id then cnt t + 1 else cnt t := by
  rcases one_cases id with ⟨h, h'⟩ | ⟨k, hk, rfl, h⟩
  · unfold wth; rw [h]; simp; omega
  · rw [has_in t k ht hk]; unfold wth; rw [h]
    have := all7 (fun t k => cnt (t ||| 2 ^ k) == if !t.testBit k then cnt t + 1 else cnt t) (by decide +kernel) t k ht hk
    simp only [beq_iff_eq] at this
    rw [this]
    have e : decide (1 ≤ (k : Int) + 1 ∧ (k : Int) + 1 ≤ 7) = true := by simp; omega
    rw [e, Bool.true_and]
theorem cnt_wout (t : Nat) (ht : t < 128) (id : Int) : (cnt (wout t id) : Int) = if has t id then (cnt t : Int) - 1 else cnt t := by
  rcases one_cases id with ⟨h, h'⟩ | ⟨k, hk, rfl, h⟩
  · rw [has_out t h']; unfold wout; rw [h]
    have : t &&& 127 = t := and127 t ht
    simp [this]
  · rw [has_in t k ht hk]; unfold wout; rw [h]
    have := all7 (fun t k => ((cnt (t &&& (127 - 2 ^ k)) : Int)) == if t.testBit k then (cnt t : Int) - 1 else cnt t) (by decide +kernel) t k ht hk
    simpa only [beq_iff_eq] using this
theorem wth_twice (t : Nat) (id : Int) : wth (wth t id) id = wth t id := by unfold wth; rw [Nat.or_assoc, Nat.or_self]
theorem wout_twice (t : Nat) (id : Int) : wout (wout t id) id = wout t id := by unfold wout; rw [Nat.and_assoc, Nat.and_self]
theorem wth_out (t : Nat) {id : Int} (h : id < 1 ∨ 7 < id) : wth t id = t := by unfold wth; rw [one_out h]; simp
theorem wout_out (t : Nat) (ht : t < 128) {id : Int} (h : id < 1 ∨ 7 < id) : wout t id = t := by
  unfold wout; rw [one_out h]
  exact and127 t ht

/-- Lists of a team. -/
theorem lstTo_succ (t k : Nat) : lstTo t (k + 1) = lstTo t k ++ if t.testBit k then [(k : Int) + 1] else [] := by
  unfold lstTo
  rw [List.range_succ, List.filter_append, List.map_append]
  by_cases h : t.testBit k <;> simp [h]
theorem lstTo_le (t k : Nat) : (lstTo t k).length ≤ k := by
  unfold lstTo; rw [List.length_map]; exact Nat.le_trans (List.length_filter_le _ _) (by simp)
theorem lst_length (t : Nat) : (lst t).length = cnt t := by
  unfold lst lstTo cnt; rw [List.length_map, List.countP_eq_length_filter]
theorem lst_mem (t : Nat) (ht : t < 128) (i : Int) : i ∈ lst t ↔ has t i = true := by
  unfold lst lstTo
  rw [List.mem_map]
  constructor
  · rintro ⟨k, hk, rfl⟩
    rw [List.mem_filter, List.mem_range] at hk
    rw [has_in t k ht hk.1]; exact hk.2
  · intro h
    have hi : 1 ≤ i ∧ i ≤ 7 := by
      by_cases hh : 1 ≤ i ∧ i ≤ 7
      · exact hh
      · rw [has_out t (by omega)] at h; cases h
    obtain ⟨k, rfl⟩ : ∃ k : Nat, i = k + 1 := ⟨(i - 1).toNat, by omega⟩
    rw [has_in t k ht (by omega)] at h
    exact ⟨k, List.mem_filter.2 ⟨List.mem_range.2 (by omega), h⟩, rfl⟩
theorem lst_rise (t : Nat) (ht : t < 128) (i : Nat) (h : i + 1 < cnt t) : (lst t).getD i 0 < (lst t).getD (i + 1) 0 := by
  have := all7 (fun t i => decide (i + 1 < cnt t → (lst t).getD i 0 < (lst t).getD (i + 1) 0)) (by decide +kernel) t i ht (by have := cnt_le t; omega)
  exact of_decide_eq_true this h
/-- How many of the first so many. -/
def cntTo (t k : Nat) : Nat := (lstTo t k).length
theorem cnt_all (t : Nat) : cntTo t 7 = cnt t := lst_length t
theorem cntTo_succ (t k : Nat) (ht : t < 128) (hk : k < 7) : cntTo t (k + 1) = cntTo t k + if has t ((k : Int) + 1) then 1 else 0 := by
  unfold cntTo; rw [lstTo_succ, has_in t k ht hk, List.length_append]
  cases t.testBit k <;> rfl

/-- Which may be, by bits. -/
theorem mask_zero (x n : Nat) (hx : x < 2 ^ 64) : (x &&& (2 ^ 64 - ((2 ^ n - 1) + 1)) = 0) ↔ x < 2 ^ n := by
  by_cases hn : 64 ≤ n
  · have h1 : 2 ^ 64 ≤ 2 ^ n := Nat.pow_le_pow_right (by decide) hn
    have h2 : 2 ^ 64 - ((2 ^ n - 1) + 1) = 0 := by omega
    rw [h2, Nat.and_zero]
    exact ⟨fun _ => by omega, fun _ => rfl⟩
  have hm : 2 ^ n - 1 < 2 ^ 64 := Nat.lt_of_lt_of_le (Nat.sub_lt (Nat.two_pow_pos n) (by decide)) (Nat.pow_le_pow_right (by decide) (by omega))
  constructor
  · intro h
    apply Nat.lt_pow_two_of_testBit
    intro i hi
    by_cases hb : i < 64
    · have := congrArg (fun y => y.testBit i) h
      simp only [Nat.testBit_and, Nat.testBit_two_pow_sub_succ hm, Nat.testBit_two_pow_sub_one, Nat.zero_testBit] at this
      have h1 : ¬ i < n := by omega
      simpa [hb, h1] using this
    · exact Nat.testBit_lt_two_pow (Nat.lt_of_lt_of_le hx (Nat.pow_le_pow_right (by decide) (by omega)))
  · intro h
    apply Nat.eq_of_testBit_eq
    intro i
    rw [Nat.testBit_and, Nat.testBit_two_pow_sub_succ hm, Nat.testBit_two_pow_sub_one, Nat.zero_testBit]
    by_cases hi : i < n
    · simp [hi]
    · rw [Nat.testBit_lt_two_pow (Nat.lt_of_lt_of_le h (Nat.pow_le_pow_right (by decide) (by omega)))]; simp

theorem meet_pos (t u : Nat) (n : Int) (h1 : most t n = true) (h2 : most u n = true) : 0 < cnt (t &&& u) := by
  unfold most may at h1 h2
  simp only [Bool.and_eq_true, decide_eq_true_eq, Int.toNat_natCast] at h1 h2
  obtain ⟨⟨⟨h3, h7⟩, -, ht⟩, ct⟩ := h1
  obtain ⟨⟨-, -, hu⟩, cu⟩ := h2
  obtain ⟨m, rfl⟩ : ∃ m : Nat, n = m := ⟨n.toNat, by omega⟩
  rw [Int.toNat_natCast] at ht hu
  have ht' : t < 2 ^ m := by exact_mod_cast ht
  have hu' : u < 2 ^ m := by exact_mod_cast hu
  have key : ∀ m ∈ [3, 4, 5, 6, 7], (List.range (2 ^ m)).all (fun t => !decide (m / 2 < cnt t) || (List.range (2 ^ m)).all fun u => !decide (m / 2 < cnt u) || decide (0 < cnt (t &&& u))) = true := by decide +kernel
  have hm : m ∈ [3, 4, 5, 6, 7] := by
    have : m = 3 ∨ m = 4 ∨ m = 5 ∨ m = 6 ∨ m = 7 := by omega
    simp [this]
  have k1 := List.all_eq_true.1 (key m hm) t (List.mem_range.2 ht')
  have e1 : m / 2 < cnt t := by omega
  have e2 : m / 2 < cnt u := by omega
  simp only [e1, decide_true, Bool.not_true, Bool.false_or] at k1
  have k2 := List.all_eq_true.1 k1 u (List.mem_range.2 hu')
  simpa [e2] using k2

/-- How many of -1 and the next so many. -/
def cntFrom (t k : Nat) : Nat := (List.range k).countP fun j : Nat => has t ((j : Int) - 1)
theorem cntFrom_succ (t k : Nat) : cntFrom t (k + 1) = cntFrom t k + if has t ((k : Int) - 1) then 1 else 0 := by
  unfold cntFrom; rw [List.range_succ, List.countP_append, List.countP_singleton]
theorem cntFrom_le (t k : Nat) : cntFrom t k ≤ k := by unfold cntFrom; exact Nat.le_trans List.countP_le_length (by simp)
theorem cntFrom_all (t : Nat) (ht : t < 128) : cntFrom t 11 = cnt t := by
  have := all1 (fun t => cntFrom t 11 == cnt t) (by decide +kernel) t ht
  simpa using this
theorem ofL_snoc (l : List Int) (x : Int) : ofL (l ++ [x]) = wth (ofL l) x := by unfold ofL; rw [List.foldl_append]; rfl
/-- One more of a list. -/
theorem has_snoc (l : List Int) (x i : Int) : has (ofL (l ++ [x])) i = (has (ofL l) i || (decide (x = i) && decide (1 ≤ i) && decide (i ≤ 7))) := by
  rw [ofL_snoc]
  by_cases h : 1 ≤ i ∧ i ≤ 7
  · rw [has_wth _ (ofL_lt l) x i h.1 h.2]
    have e : decide (i = x) = decide (x = i) := decide_eq_decide.2 ⟨fun h => h.symm, fun h => h.symm⟩
    simp [h.1, h.2, e]
  · rw [has_out _ (by omega), has_out _ (by omega)]
    by_cases h1 : 1 ≤ i
    · have : ¬ i ≤ 7 := fun h7 => h ⟨h1, h7⟩
      simp [this]
    · simp [h1]

/-- Those that decide in so many views, from one whose place is r. -/
def turn (r n k : Nat) : Nat := ofL ((List.range k).map fun i => 1 + (((r + i) % n : Nat) : Int))
theorem turn_succ (r n k : Nat) : turn r n (k + 1) = wth (turn r n k) (1 + (((r + k) % n : Nat) : Int)) := by
  unfold turn; rw [List.range_succ, List.map_append]; exact ofL_snoc _ _
theorem turn_lt (r n k : Nat) : turn r n k < 128 := ofL_lt _
theorem turn_new (r n k : Nat) (h3 : 3 ≤ n) (h7 : n ≤ 7) (hr : r < n) (hk : k < n) : has (turn r n k) (1 + (((r + k) % n : Nat) : Int)) = false := by
  have key : [3, 4, 5, 6, 7].all (fun n => (List.range n).all fun r => (List.range n).all fun k => has (turn r n k) (1 + (((r + k) % n : Nat) : Int)) == false) = true := by decide +kernel
  have hm : n ∈ [3, 4, 5, 6, 7] := by
    have : n = 3 ∨ n = 4 ∨ n = 5 ∨ n = 6 ∨ n = 7 := by omega
    simp [this]
  have := List.all_eq_true.1 (List.all_eq_true.1 (List.all_eq_true.1 key n hm) r (List.mem_range.2 hr)) k (List.mem_range.2 hk)
  simpa using this
theorem turn_all (r n : Nat) (h3 : 3 ≤ n) (h7 : n ≤ 7) (hr : r < n) : cnt (turn r n n) = n ∧ most (turn r n n) n = true := by
  have key : [3, 4, 5, 6, 7].all (fun n => (List.range n).all fun r => cnt (turn r n n) == n && most (turn r n n) n) = true := by decide +kernel
  have hm : n ∈ [3, 4, 5, 6, 7] := by
    have : n = 3 ∨ n = 4 ∨ n = 5 ∨ n = 6 ∨ n = 7 := by omega
    simp [this]
  have := List.all_eq_true.1 (List.all_eq_true.1 key n hm) r (List.mem_range.2 hr)
  simpa using this
theorem turn_is (v : Int) (n k : Nat) (hv : 1 ≤ v) (h3 : 3 ≤ n) (h7 : n ≤ 7) : decider (v + k) n = 1 + ((((v - 1) % n).toNat + k) % n : Nat) := by
  unfold decider; rw [if_neg (by omega)]
  have q1 := Int.emod_nonneg (v - 1) (show (n : Int) ≠ 0 by omega)
  have e : ((((v - 1) % n).toNat + k) % n : Nat) = ((((v - 1) % n + k) % n : Int)) := by rw [Int.natCast_emod, Int.natCast_add, Int.toNat_of_nonneg q1]
  rw [e, Int.emod_add_emod]
  congr 2; omega
end Go.Proofs.YtfijjdahoimoeaaDoor.PTeam

/- Contracts of package team: first, mayCount, May. -/
namespace Go.Proofs.YtfijjdahoimoeaaDoor
open Go.RowKit

theorem i64_nat (a b : Nat) (ha : a < 9223372036854775808) (hb : b < 9223372036854775808) : bits .and .i64 (a : Int) (b : Int) = ((a &&& b : Nat) : Int) ∧ bits .or .i64 (a : Int) (b : Int) = ((a ||| b : Nat) : Int) :=
  bits_nat .i64 63 (by decide) (fun n h1 h2 => by rw [IntKind.wrap_i64]; omega) a b ha hb
theorem i64_bits (x : Int) (m : Nat) (hm : m < 9223372036854775808) : bits .andNot .i64 x (m : Int) = IntKind.i64.wrap (((x % 18446744073709551616).toNat &&& (2 ^ 64 - (m + 1)) : Nat) : Int) := by
  have h1 : (BitVec.ofInt 64 x).toNat = (x % 18446744073709551616).toNat := by rw [BitVec.toNat_ofInt]; rfl
  have h2 : (BitVec.ofInt 64 (m : Int)).toNat = m := by rw [BitVec.ofInt_natCast, BitVec.toNat_ofNat]; exact Nat.mod_eq_of_lt (by omega)
  show IntKind.i64.wrap ((BitVec.ofInt 64 x &&& ~~~BitVec.ofInt 64 (m : Int)).toNat : Int) = _
  rw [BitVec.toNat_and, BitVec.toNat_not, h1, h2]
  have e : 2 ^ 64 - 1 - m = 2 ^ 64 - (m + 1) := by omega
  rw [e]
theorem i64_without (t o : Nat) (ht : t < 128) (ho : o < 128) : bits .andNot .i64 (t : Int) (o : Int) = ((t &&& (127 - o) : Nat) : Int) := by
  rw [i64_bits _ _ (by omega)]
  have e : ((t : Int) % 18446744073709551616).toNat = t := by omega
  rw [e]
  have key : (List.range 128).all (fun t => (List.range 128).all fun o => (t &&& (2 ^ 64 - (o + 1))) == (t &&& (127 - o))) = true := by decide +kernel
  have k1 := List.all_eq_true.1 (List.all_eq_true.1 key t (List.mem_range.2 ht)) o (List.mem_range.2 ho)
  simp only [beq_iff_eq] at k1
  rw [k1, IntKind.wrap_i64]
  have := PTeam.and_lt (127 - o) ht
  omega
theorem i64_may (t : Int) (n : Nat) (h1 : -9223372036854775808 ≤ t) (h2 : t ≤ 9223372036854775807) (hn : n ≤ 7) : (bits .andNot .i64 t ((2 ^ n - 1 : Nat) : Int) == 0) = decide (0 ≤ t ∧ t < 2 ^ n) := by
  have hp : 2 ^ n ≤ 128 := Nat.pow_le_pow_right (n := 2) (by decide) hn
  have hp0 : 0 < 2 ^ n := Nat.two_pow_pos n
  rw [i64_bits _ _ (by omega), IntKind.wrap_i64]
  have hx : (t % 18446744073709551616).toNat < 2 ^ 64 := by omega
  have hm := PTeam.mask_zero (t % 18446744073709551616).toNat n hx
  have hlt : (t % 18446744073709551616).toNat &&& (2 ^ 64 - ((2 ^ n - 1) + 1)) < 2 ^ 64 := Nat.lt_of_le_of_lt Nat.and_le_left hx
  generalize (t % 18446744073709551616).toNat &&& (2 ^ 64 - ((2 ^ n - 1) + 1)) = y at *
  have hc : ((2 : Int) ^ n) = ((2 ^ n : Nat) : Int) := by simp
  rw [hc]
  generalize 2 ^ n = p at *
  rw [Bool.eq_iff_iff]
  simp only [beq_iff_eq, decide_eq_true_eq]
  constructor
  · intro h
    have : y = 0 := by omega
    have := hm.1 this
    omega
  · rintro ⟨h3, h4⟩
    have : y = 0 := hm.2 (by omega)
    omega

theorem first_c (w : World) (n : Int) (h3 : 3 ≤ n) (h7 : n ≤ 7) :
    Calls Tryd.prog 68 #[.int .i64 n] w fun e w' => e = .returned (.int .i64 (2 ^ n.toNat - 1 : Nat)) ∧ w = w' := by
  have hc : n = 3 ∨ n = 4 ∨ n = 5 ∨ n = 6 ∨ n = 7 := by omega
  rcases hc with rfl | rfl | rfl | rfl | rfl
  all_goals
    go_enter Tryd.func68, Tryd.ntmps68
    go_wp2
    go_ret
    exact ⟨rfl, rfl⟩

def okB (n : Int) : Bool := decide (3 ≤ n ∧ n ≤ 7)
theorem mayCount_c (w : World) (n : Int) :
    Calls Tryd.prog 67 #[.int .i64 n] w fun e w' => e = .returned (.bool (okB n)) ∧ w = w' := by
  have h : okB n = (decide (3 ≤ n) && decide (n ≤ 7)) := by unfold okB; exact Bool.decide_and _ _
  have H := Lib.hid h; clear h
  by_cases h3 : 3 ≤ n
  all_goals by_cases h7 : n ≤ 7
  all_goals
    go_enter Tryd.func67, Tryd.ntmps67
    go_wp2
    go_ret
    exact ⟨by rw [H.out]; simp [h3, h7], rfl⟩

theorem tMay_c (w : World) (t n : Int) (h1 : -9223372036854775808 ≤ t) (h2 : t ≤ 9223372036854775807) :
    Calls Tryd.prog 55 #[.int .i64 t, .int .i64 n] w fun e w' => e = .returned (.bool (PTeam.may t n)) ∧ w = w' := by
  have hm : PTeam.may t n = (okB n && decide (0 ≤ t ∧ t < 2 ^ n.toNat)) := rfl
  have HM := Lib.hid hm; clear hm
  cases hb : okB n
  · go_enter Tryd.func55, Tryd.ntmps55
    go_wp2_with fail
    refine (mayCount_c w n).mono ?_
    rintro e w' ⟨rfl, rfl⟩
    go_wp2_with fail
    go_ret
    exact ⟨by rw [HM.out, hb]; rfl, rfl⟩
  · have hb' := of_decide_eq_true hb
    have e1 := i64_may t n.toNat h1 h2 (by omega)
    go_enter Tryd.func55, Tryd.ntmps55
    go_wp2_with fail
    refine (mayCount_c w n).mono ?_
    rintro e w' ⟨rfl, rfl⟩
    go_wp2_with fail
    refine (first_c w n hb'.1 hb'.2).mono ?_
    rintro e w' ⟨rfl, rfl⟩
    go_wp2_with fail
    go_ret
    exact ⟨by rw [HM.out, hb, Bool.true_and, Bool.decide_and]; rfl, rfl⟩

theorem may_lt {t n : Int} (h : PTeam.may t n = true) : 3 ≤ n ∧ n ≤ 7 ∧ 0 ≤ t ∧ t < 128 := by
  unfold PTeam.may at h
  simp only [Bool.and_eq_true, decide_eq_true_eq] at h
  obtain ⟨⟨h3, h7⟩, h0, ht⟩ := h
  have hp : 2 ^ n.toNat ≤ 2 ^ 7 := Nat.pow_le_pow_right (n := 2) (by decide) (by omega)
  have : ((2 ^ n.toNat : Nat) : Int) = (2 : Int) ^ n.toNat := by simp
  omega

end Go.Proofs.YtfijjdahoimoeaaDoor

