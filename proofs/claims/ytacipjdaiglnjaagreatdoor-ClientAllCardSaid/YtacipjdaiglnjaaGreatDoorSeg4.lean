/- Contracts of the log's New, addAll, Put, From; of all methods at no log. -/
import Derived.Test.YtacipjdaiglnjaaGreatDoorSeg3
import Derived.Test.YtacipjdaiglnjaaGreatDoorSeg2
import Derived.ArgAppend
import Derived.Laws.BitsAllLaws
import Derived.Laws.Bits128
import Derived.Lib.Hide
import Derived.BigQuiet
import Derived.Test.YtacipjdaiglnjaaGreatDoorRows
import Derived.Test.YtacipjdaiglnjaaGreatDoorSeg1
import Derived.Deep.QuietTactic
namespace Go.Proofs.YtacipjdaiglnjaaGreatDoor
open Go.RowKit

set_option maxHeartbeats 4000000 in
set_option maxRecDepth 100000 in
theorem From_in (w : World) (g : Nat) (F : List Nat) (L : List Ent) (h : Lg w g F L) (k : Nat) (hk : k ≤ L.length) :
    Calls Tryz.prog 38 #[.pointer (some ⟨g, 0, none⟩), .int .i64 k] w fun x w' => ∃ A' c', x = .returned (.slice A' (L.length - k) c') ∧ w'.ownsRow w.heap.size 93 7 (.slice A' (L.length - k) c') (L.length - k) (els (L.drop k)) ∧ Below w.heap.size w w' := by
  have h60 := h.le
  obtain ⟨A0, c0, d, RL, -⟩ := h.open
  obtain ⟨A1, c1, hrun1, R1⟩ := cut_any (P := Tryz.prog) (w := w) 29 93 Tryz.underlying29 ent_info RL (some (.int .i64 k)) none k L.length k 0 (Or.inr ⟨rfl, rfl⟩) (Or.inl ⟨rfl, rfl⟩) hk (Nat.le_refl _)
  have e1 : ((els L).drop (k * 7)).take ((L.length - k) * 7) = els (L.drop k) := by
    rw [els_drop, els_take]; congr 1; exact List.take_of_length_le (by simp)
  rw [e1] at R1
  have R1' := Lib.hid R1
  have j1 : ¬ ((k : Int) < 0) := by omega
  have j2 : ¬ ((L.length : Int) < (k : Int)) := by omega
  clear h RL R1 e1
  go_enter Tryz.func38, Tryz.ntmps38
  go_wp2_with ((with_reducible show wpList _ _ _ ((⟨some 25, Op.slice _ _ _ _ _, _, _, _, _⟩ : Oper) :: _) _ _); (refine wpList_plain rfl fun K hK => ?_; unfold Oper.wp; rw [run_sliceOp (hrun1 _), Oper.upon_value]; refine hK _ _ ?_))
  refine (cloneE_c w _ A1 c1 (L.length - k) (L.drop k) R1'.out (by omega)).mono ?_
  rintro x w1 ⟨A', c', rfl, hown, b1⟩
  go_wp2_with fail
  go_ret
  exact ⟨A', c', rfl, hown, b1⟩

set_option maxRecDepth 100000 in
theorem From_out (w : World) (g : Nat) (F : List Nat) (L : List Ent) (h : Lg w g F L) (k : Int) (hk : k < 0 ∨ (L.length : Int) < k) :
    Calls Tryz.prog 38 #[.pointer (some ⟨g, 0, none⟩), .int .i64 k] w fun x w' => x = .returned (.slice none 0 0) ∧ w = w' := by
  obtain ⟨A0, c0, d, -, -⟩ := h.open
  clear h
  by_cases h1 : k < 0
  · clear hk
    go_enter Tryz.func38, Tryz.ntmps38
    go_wp2_with fail
    go_ret
    exact ⟨rfl, rfl⟩
  · have h2 : (L.length : Int) < k := by omega
    clear hk
    go_enter Tryz.func38, Tryz.ntmps38
    go_wp2_with fail
    go_ret
    exact ⟨rfl, rfl⟩
end Go.Proofs.YtacipjdaiglnjaaGreatDoor

/- 'Og': a slice of the call's own that may begin behind its block's head ('l = l[1:]'); its append. No program is named here. -/
namespace Go.Proofs.YtacipjdaiglnjaaGreatDoor
open Go.RowKit

/-- A slice of the call's own, wherever in its block it begins ('l = l[1:]' too). -/
def Og (w : World) (base : Nat) (e : TypeId) (k : Nat) (A : Option Addr) (n c : Nat) (xs : List Value) : Prop :=
  xs.length = n * k ∧ ((A = none ∧ n = 0 ∧ c = 0) ∨ ∃ g Y Z, A = some ⟨g, Y.length, none⟩ ∧ base ≤ g ∧ Blk w g e (Y ++ (xs ++ Z)) ∧ n ≤ c ∧ c ≤ maxLen ∧ c * k ≤ (xs ++ Z).length)
section
variable {w w' : World} {base k n c g i : Nat} {e : TypeId} {A : Option Addr} {xs : List Value} {S : List Nat}
theorem Og.nil (w : World) (base : Nat) (e : TypeId) (k : Nat) : Og w base e k none 0 0 [] := ⟨by simp, .inl ⟨rfl, rfl, rfl⟩⟩
theorem Og.of_ow (h : Ow w base e k A n c xs) : Og w base e k A n c xs := by
  refine ⟨h.1, ?_⟩
  rcases h.2 with h2 | ⟨g, Z, h1, h2, h3, h4⟩
  · exact .inl h2
  · exact .inr ⟨g, [], Z, h1, h2, by simpa using h3, h4⟩
theorem Og.rd (h : Og w base e k A n c xs) : Rd w w.heap.size A c k n xs := by
  refine ⟨h.1, ?_⟩
  rcases h.2 with ⟨h0, h1, h2⟩ | ⟨g, Y, Z, hA, hb, hB, hn, hc, hz⟩
  · exact ⟨by omega, by rw [h2]; simp [maxLen], fun _ => h2, fun hp => by rw [h1] at hp; simp at hp⟩
  · refine ⟨hn, hc, (fun h => by rw [hA] at h; cases h), fun _ => ⟨g, Y.length, hA, hB.lt, fun j u hu => ?_⟩⟩
    refine hB.cell ?_
    rw [List.getElem?_append_right (by omega), show Y.length + j - Y.length = j by omega, List.getElem?_append_left (List.getElem?_eq_some_iff.1 hu).1]
    exact hu
theorem Og.touch (h : Og w base e k A n c xs) (ht : Touch S w w') (hs : ∀ g ∈ S, bk A ≠ some g) : Og w' base e k A n c xs := by
  refine ⟨h.1, ?_⟩
  rcases h.2 with h2 | ⟨g, Y, Z, hA, hb, hB, r⟩
  · exact .inl h2
  · exact .inr ⟨g, Y, Z, hA, hb, hB.touch ht (fun hm => hs g hm (by rw [hA]; rfl)), r⟩
theorem Og.past (h : Og w base e k A n c xs) (hb : Below w.heap.size w w') : Og w' base e k A n c xs := h.touch (S := []) (.of_below hb) (by simp)
theorem Og.blk (h : Og w base e k A n c xs) (hg : bk A = some g) : base ≤ g ∧ ∃ ys, Blk w g e ys := by
  rcases h.2 with ⟨h0, _⟩ | ⟨g', Y, Z, hA, hb, hB, _⟩
  · rw [h0] at hg; cases hg
  · rw [hA] at hg
    have e1 : g' = g := by simpa [bk] using hg
    subst e1; exact ⟨hb, _, hB⟩
/-- Blocks of another type are others. -/
theorem Og.ne {e' : TypeId} {ys : List Value} (h : Og w base e k A n c xs) (h' : Blk w g e' ys) (he : e ≠ e') : bk A ≠ some g := fun hg => by
  obtain ⟨_, zs, hB⟩ := h.blk hg
  exact hB.ne h' he rfl
theorem Og.down {base' : Nat} (h : Og w base e k A n c xs) (hb : base' ≤ base) : Og w base' e k A n c xs := by
  refine ⟨h.1, ?_⟩
  rcases h.2 with h2 | ⟨g, Y, Z, hA, hg, r⟩
  · exact .inl h2
  · exact .inr ⟨g, Y, Z, hA, by omega, r⟩
/-- 'l[1:]'. -/
theorem Og.tail (h : Og w base e k A n c xs) (hn : 1 < n) : Og w base e k (A.map (·.add k)) (n - 1) (c - 1) (xs.drop k) := by
  have hl := h.1
  have hk : k ≤ n * k := Nat.le_mul_of_pos_left k (by omega)
  refine ⟨by rw [List.length_drop, hl, Nat.sub_mul, Nat.one_mul], ?_⟩
  rcases h.2 with ⟨h0, h1, h2⟩ | ⟨g, Y, Z, hA, hb, hB, hnc, hc, hz⟩
  · omega
  · refine .inr ⟨g, Y ++ xs.take k, Z, ?_, hb, ?_, by omega, by omega, ?_⟩
    · rw [hA, List.length_append, List.length_take, Nat.min_eq_left (by omega), Option.map_some, add_zero_spot]
    · rw [List.append_assoc, ← List.append_assoc (xs.take k), List.take_append_drop]; exact hB
    · rw [List.length_append] at hz ⊢
      rw [List.length_drop, Nat.sub_mul, Nat.one_mul]
      omega
theorem Blk.cells {Y R Q : List Value} (h : Blk w g e (Y ++ (R ++ Q))) : ∀ us : List Value, us.length = R.length → Blk (w.setCells g Y.length us) g e (Y ++ (us ++ Q)) := by
  intro us
  induction us generalizing w Y R with
  | nil => intro hl; have : R = [] := List.eq_nil_of_length_eq_zero (by simpa using hl.symm); subst this; exact h
  | cons u us ih =>
    intro hl
    rcases R with _ | ⟨r, R⟩
    · simp at hl
    · have h1 := h.set Y.length u
      rw [List.set_append_right _ _ (Nat.le_refl _), Nat.sub_self, List.cons_append, List.set_cons_zero] at h1
      have h2 : Blk (w.setCell ⟨g, Y.length, none⟩ u) g e ((Y ++ [u]) ++ (R ++ Q)) := by simpa using h1
      have h3 := ih h2 (by simpa using hl)
      rw [World.setCells]
      simpa using h3
theorem grown_cells (w : World) (g : Nat) : ∀ (us : List Value) (o : Nat), Touch [g] w (w.setCells g o us) := by
  intro us
  induction us generalizing w with
  | nil => intro o; exact Touch.refl _ _
  | cons u us ih => intro o; rw [World.setCells]; exact ((Touch.refl [g] w).cell (List.mem_singleton.2 rfl) _ _).trans (ih _ _)
end
section
variable {P : Program}
end
theorem Blk.there {w : World} {g : Nat} {e : TypeId} {xs : List Value} (h : Blk w g e xs) {o n : Nat} (hn : o + n ≤ xs.length) : w.there g o n := fun j hj =>
  ⟨by rw [h.cell (List.getElem?_eq_getElem (show o + j < xs.length by omega))]; rfl, h.free _⟩

end Go.Proofs.YtacipjdaiglnjaaGreatDoor

/- Plain mathematics of teams: bits of numbers below 128. No program is named here. -/
namespace Go.Proofs.YtacipjdaiglnjaaGreatDoor.PTeam

/-- The team of one. -/
def one (id : Int) : Nat := if 1 ≤ id ∧ id ≤ 7 then 2 ^ (id - 1).toNat else 0
def has (t : Nat) (id : Int) : Bool := decide (t &&& one id ≠ 0)
def wth (t : Nat) (id : Int) : Nat := t ||| one id
def wout (t : Nat) (id : Int) : Nat := t &&& (127 - one id)
def cnt (t : Nat) : Nat := (List.range 7).countP fun i => t.testBit i
def lstTo (t k : Nat) : List Int := ((List.range k).filter fun i => t.testBit i).map fun i : Nat => (i : Int) + 1
def lst (t : Nat) : List Int := lstTo t 7
def may (t n : Int) : Bool := decide (3 ≤ n ∧ n ≤ 7) && decide (0 ≤ t ∧ t < 2 ^ n.toNat)
def most (t n : Int) : Bool := may t n && decide (n / 2 < (cnt t.toNat : Int))
def decider (v n : Int) : Int := if v < 1 ∨ n < 3 ∨ 7 < n then 0 else 1 + (v - 1) % n
/-- Those of a list. -/
def ofL (l : List Int) : Nat := l.foldl wth 0

theorem one_cases (id : Int) : (one id = 0 ∧ (id < 1 ∨ 7 < id)) ∨ ∃ k : Nat, k < 7 ∧ id = k + 1 ∧ one id = 2 ^ k := by
  unfold one
  by_cases h : 1 ≤ id ∧ id ≤ 7
  · exact .inr ⟨(id - 1).toNat, by omega, by omega, by rw [if_pos h]⟩
  · exact .inl ⟨by rw [if_neg h], by omega⟩
theorem pow_lt (k : Nat) (hk : k < 7) : 2 ^ k < 128 := (by decide : ∀ k : Fin 7, 2 ^ k.val < 128) ⟨k, hk⟩
theorem one_lt (id : Int) : one id < 128 := by
  rcases one_cases id with ⟨h, _⟩ | ⟨k, hk, _, h⟩
  · omega
  · rw [h]; exact pow_lt k hk
theorem one_out {id : Int} (h : id < 1 ∨ 7 < id) : one id = 0 := by unfold one; rw [if_neg (by omega)]
theorem one_in (k : Nat) (h : k < 7) : one ((k : Int) + 1) = 2 ^ k := by
  unfold one; rw [if_pos (by omega)]; congr 1; omega
theorem and_lt {t : Nat} (u : Nat) (h : t < 128) : t &&& u < 128 := Nat.lt_of_le_of_lt Nat.and_le_left h
theorem or_lt {t u : Nat} (h : t < 128) (h' : u < 128) : t ||| u < 128 := Nat.or_lt_two_pow (n := 7) h h'
theorem wth_lt {t : Nat} (h : t < 128) (id : Int) : wth t id < 128 := or_lt h (one_lt id)
theorem wout_lt {t : Nat} (h : t < 128) (id : Int) : wout t id < 128 := and_lt _ h
theorem ofL_lt (l : List Int) : ofL l < 128 := by
  have : ∀ (l : List Int) (t : Nat), t < 128 → l.foldl wth t < 128 := by
    intro l
    induction l with
    | nil => intro t h; exact h
    | cons x l ih => intro t h; exact ih _ (wth_lt h x)
  exact this l 0 (by omega)

/-- Of all teams and all processes: by looking at each. -/
theorem all7 (p : Nat → Nat → Bool) (h : (List.range 128).all (fun t => (List.range 7).all fun k => p t k) = true) (t k : Nat) (ht : t < 128) (hk : k < 7) : p t k = true :=
  List.all_eq_true.1 (List.all_eq_true.1 h t (List.mem_range.2 ht)) k (List.mem_range.2 hk)
theorem has_out (t : Nat) {id : Int} (h : id < 1 ∨ 7 < id) : has t id = false := by unfold has; rw [one_out h]; simp
theorem has_in (t k : Nat) (ht : t < 128) (h : k < 7) : has t ((k : Int) + 1) = t.testBit k := by
  unfold has; rw [one_in k h]
  have := all7 (fun t k => decide (t &&& 2 ^ k ≠ 0) == t.testBit k) (by decide +kernel) t k ht h
  simpa using this
theorem has_bits (t : Nat) (ht : t < 128) (id : Int) : has t id = (decide (1 ≤ id ∧ id ≤ 7) && t.testBit (id - 1).toNat) := by
  by_cases h : 1 ≤ id ∧ id ≤ 7
  · obtain ⟨k, rfl⟩ : ∃ k : Nat, id = k + 1 := ⟨(id - 1).toNat, by omega⟩
    rw [has_in t k ht (by omega)]
    have : ((k : Int) + 1 - 1).toNat = k := by omega
    rw [this]; simp [h]
  · rw [has_out t (by omega)]; simp [h]

theorem bit_one (id : Int) (k : Nat) (hk : k < 7) : (one id).testBit k = decide (id = k + 1) := by
  rcases one_cases id with ⟨h, h'⟩ | ⟨j, hj, rfl, h⟩
  · rw [h]; simp; omega
  · rw [h, Nat.testBit_two_pow]
    by_cases e : j = k
    · subst e; simp
    · simp [e]; omega
theorem has_wth (t : Nat) (ht : t < 128) (id i : Int) (h1 : 1 ≤ i) (h7 : i ≤ 7) : has (wth t id) i = (has t i || decide (i = id)) := by
  obtain ⟨k, rfl⟩ : ∃ k : Nat, i = k + 1 := ⟨(i - 1).toNat, by omega⟩
  rw [has_in _ k (wth_lt ht id) (by omega), has_in _ k ht (by omega)]
  unfold wth
  rw [Nat.testBit_or, bit_one id k (by omega)]
  congr 1
  exact decide_eq_decide.2 ⟨fun h => h.symm, fun h => h.symm⟩
theorem bit_not (o k : Nat) (ho : o < 128) (hk : k < 7) : (127 - o).testBit k = !o.testBit k := by
  have := all7 (fun o k => (127 - o).testBit k == !o.testBit k) (by decide +kernel) o k ho hk
  simpa using this
theorem has_wout (t : Nat) (ht : t < 128) (id i : Int) (h1 : 1 ≤ i) (h7 : i ≤ 7) : has (wout t id) i = (has t i && decide (i ≠ id)) := by
  obtain ⟨k, rfl⟩ : ∃ k : Nat, i = k + 1 := ⟨(i - 1).toNat, by omega⟩
  rw [has_in _ k (wout_lt ht id) (by omega), has_in _ k ht (by omega)]
  unfold wout
  rw [Nat.testBit_and, bit_not _ k (one_lt id) (by omega), bit_one id k (by omega)]
  congr 1
  by_cases h : id = k + 1
  · simp [h]
  · have : ¬ (k : Int) + 1 = id := by omega
    simp [h, this]
theorem has_ofL (l : List Int) (i : Int) (h1 : 1 ≤ i) (h7 : i ≤ 7) : has (ofL l) i = l.contains i := by
  have : ∀ (l : List Int) (t : Nat), t < 128 → has (l.foldl wth t) i = (has t i || l.contains i) := by
    intro l
    induction l with
    | nil => intro t h; simp
    | cons x l ih =>
      intro t h
      rw [List.foldl_cons, ih _ (wth_lt h x), has_wth t h x i h1 h7, Bool.or_assoc]
      congr 1
  have h0 := this l 0 (by omega)
  unfold ofL
  rw [h0]
  have : has 0 i = false := by simp [has]
  rw [this, Bool.false_or]

theorem cnt_le (t : Nat) : cnt t ≤ 7 := by unfold cnt; exact Nat.le_trans List.countP_le_length (by simp)
/-- Lists of a team. -/
theorem lstTo_succ (t k : Nat) : lstTo t (k + 1) = lstTo t k ++ if t.testBit k then [(k : Int) + 1] else [] := by
  unfold lstTo
  rw [List.range_succ, List.filter_append, List.map_append]
  by_cases h : t.testBit k <;> simp [h]
theorem lstTo_le (t k : Nat) : (lstTo t k).length ≤ k := by
  unfold lstTo; rw [List.length_map]; exact Nat.le_trans (List.length_filter_le _ _) (by simp)
theorem lst_length (t : Nat) : (lst t).length = cnt t := by
  unfold lst lstTo cnt; rw [List.length_map, List.countP_eq_length_filter]
theorem lst_mem (t : Nat) (ht : t < 128) (i : Int) : i ∈ lst t ↔ has t i = true := by
  unfold lst lstTo
  rw [List.mem_map]
  constructor
  · rintro ⟨k, hk, rfl⟩
    rw [List.mem_filter, List.mem_range] at hk
    rw [has_in t k ht hk.1]; exact hk.2
  · intro h
    have hi : 1 ≤ i ∧ i ≤ 7 := by
      by_cases hh : 1 ≤ i ∧ i ≤ 7
      · exact hh
      · rw [has_out t (by omega)] at h; cases h
    obtain ⟨k, rfl⟩ : ∃ k : Nat, i = k + 1 := ⟨(i - 1).toNat, by omega⟩
    rw [has_in t k ht (by omega)] at h
    exact ⟨k, List.mem_filter.2 ⟨List.mem_range.2 (by omega), h⟩, rfl⟩
/-- How many of the first so many. -/
def cntTo (t k : Nat) : Nat := (lstTo t k).length
theorem cnt_all (t : Nat) : cntTo t 7 = cnt t := lst_length t
theorem cntTo_succ (t k : Nat) (ht : t < 128) (hk : k < 7) : cntTo t (k + 1) = cntTo t k + if has t ((k : Int) + 1) then 1 else 0 := by
  unfold cntTo; rw [lstTo_succ, has_in t k ht hk, List.length_append]
  cases t.testBit k <;> rfl

/-- Which may be, by bits. -/
theorem mask_zero (x n : Nat) (hx : x < 2 ^ 64) : (x &&& (2 ^ 64 - ((2 ^ n - 1) + 1)) = 0) ↔ x < 2 ^ n := by
  by_cases hn : 64 ≤ n
  · have h1 : 2 ^ 64 ≤ 2 ^ n := Nat.pow_le_pow_right (by decide) hn
    have h2 : 2 ^ 64 - ((2 ^ n - 1) + 1) = 0 := by omega
    rw [h2, Nat.and_zero]
    exact ⟨fun _ => by omega, fun _ => rfl⟩
  have hm : 2 ^ n - 1 < 2 ^ 64 := Nat.lt_of_lt_of_le (Nat.sub_lt (Nat.two_pow_pos n) (by decide)) (Nat.pow_le_pow_right (by decide) (by omega))
  constructor
  · intro h
    apply Nat.lt_pow_two_of_testBit
    intro i hi
    by_cases hb : i < 64
    · have := congrArg (fun y => y.testBit i) h
      simp only [Nat.testBit_and, Nat.testBit_two_pow_sub_succ hm, Nat.testBit_two_pow_sub_one, Nat.zero_testBit] at this
      have h1 : ¬ i < n := by omega
      simpa [hb, h1] using this
    · exact Nat.testBit_lt_two_pow (Nat.lt_of_lt_of_le hx (Nat.pow_le_pow_right (by decide) (by omega)))
  · intro h
    apply Nat.eq_of_testBit_eq
    intro i
    rw [Nat.testBit_and, Nat.testBit_two_pow_sub_succ hm, Nat.testBit_two_pow_sub_one, Nat.zero_testBit]
    by_cases hi : i < n
    · simp [hi]
    · rw [Nat.testBit_lt_two_pow (Nat.lt_of_lt_of_le h (Nat.pow_le_pow_right (by decide) (by omega)))]; simp

theorem ofL_snoc (l : List Int) (x : Int) : ofL (l ++ [x]) = wth (ofL l) x := by unfold ofL; rw [List.foldl_append]; rfl
/-- One more of a list. -/
theorem has_snoc (l : List Int) (x i : Int) : has (ofL (l ++ [x])) i = (has (ofL l) i || (decide (x = i) && decide (1 ≤ i) && decide (i ≤ 7))) := by
  rw [ofL_snoc]
  by_cases h : 1 ≤ i ∧ i ≤ 7
  · rw [has_wth _ (ofL_lt l) x i h.1 h.2]
    have e : decide (i = x) = decide (x = i) := decide_eq_decide.2 ⟨fun h => h.symm, fun h => h.symm⟩
    simp [h.1, h.2, e]
  · rw [has_out _ (by omega), has_out _ (by omega)]
    by_cases h1 : 1 ≤ i
    · have : ¬ i ≤ 7 := fun h7 => h ⟨h1, h7⟩
      simp [this]
    · simp [h1]

/-- Those that decide in so many views, from one whose place is r. -/
def turn (r n k : Nat) : Nat := ofL ((List.range k).map fun i => 1 + (((r + i) % n : Nat) : Int))
end Go.Proofs.YtacipjdaiglnjaaGreatDoor.PTeam

/- Plain mathematics of rows of so many cells each. No program is named here. -/
namespace Go.Proofs.YtacipjdaiglnjaaGreatDoor

section
variable {α β : Type} {f : α → List β} {k : Nat}
/-- Rows of so many cells each, one behind the other. -/
theorem rows_len (hf : ∀ a, (f a).length = k) (l : List α) : (l.flatMap f).length = l.length * k := by
  induction l with
  | nil => simp
  | cons a r ih => rw [List.flatMap_cons, List.length_append, hf, ih, List.length_cons, Nat.add_mul]; omega
theorem rows_drop (hf : ∀ a, (f a).length = k) (l : List α) : ∀ i, (l.flatMap f).drop (i * k) = (l.drop i).flatMap f := by
  induction l with
  | nil => intro i; simp
  | cons a r ih =>
    intro i
    cases i with
    | zero => simp
    | succ i =>
      rw [List.flatMap_cons, show (i + 1) * k = (f a).length + i * k by rw [hf, Nat.add_mul]; omega, ← List.drop_drop, List.drop_left, ih, List.drop_succ_cons]
theorem rows_take (hf : ∀ a, (f a).length = k) (l : List α) : ∀ i, (l.flatMap f).take (i * k) = (l.take i).flatMap f := by
  induction l with
  | nil => intro i; simp
  | cons a r ih =>
    intro i
    cases i with
    | zero => simp
    | succ i =>
      rw [List.flatMap_cons, show (i + 1) * k = (f a).length + i * k by rw [hf, Nat.add_mul]; omega, List.take_add, List.take_left, List.drop_left, ih, List.take_succ_cons, List.flatMap_cons]
theorem rows_at (hf : ∀ a, (f a).length = k) {l : List α} {i : Nat} {a : α} (h : l[i]? = some a) {j : Nat} (hj : j < k) : (l.flatMap f)[i * k + j]? = (f a)[j]? := by
  obtain ⟨hi, he⟩ := List.getElem?_eq_some_iff.1 h
  have h1 := rows_drop hf l i
  rw [List.drop_eq_getElem_cons hi, he] at h1
  have h3 := congrArg (fun q => q[j]?) h1
  simp only [List.getElem?_drop] at h3
  rw [h3, List.flatMap_cons, List.getElem?_append_left (by rw [hf]; exact hj)]
end
end Go.Proofs.YtacipjdaiglnjaaGreatDoor

/- Plain mathematics of votes: seven places, who voted, the best vote. No program is named here. -/
namespace Go.Proofs.YtacipjdaiglnjaaGreatDoor

/-- A vote. -/
structure Vt where
  fr : Int
  last : Int
  es : List Ent
  com : Int

namespace PVote
open PTeam
def zero : Vt := ⟨0, 0, [], 0⟩
def none7 : List (Option Vt) := List.replicate 7 none
def isLog (es : List Ent) : Bool := decide ((PLog.log es).length = es.length)
/-- A vote that may be. -/
def good (view n : Int) (v : Vt) : Bool := decide (1 ≤ v.fr ∧ v.fr ≤ n) && decide (0 ≤ v.last ∧ v.last < view) && isLog v.es && decide (0 ≤ v.com ∧ v.com ≤ v.es.length)
/-- Who voted, as numbers, as bits; the votes. -/
def ids (S : List (Option Vt)) : List Int := ((List.range 7).filter fun k => (S.getD k none).isSome).map fun k : Nat => (k : Int) + 1
def tm (S : List (Option Vt)) : Nat := ofL (ids S)
def got (S : List (Option Vt)) : List Vt := S.filterMap id
def put (S : List (Option Vt)) (v : Vt) : List (Option Vt) := S.set (v.fr - 1).toNat (some v)
def ok (view n : Int) (S : List (Option Vt)) (v : Vt) : Bool := good view n v && !has (tm S) v.fr
def add (view n : Int) (S : List (Option Vt)) (v : Vt) : List (Option Vt) := if ok view n S v = true then put S v else S
/-- The vote at a place; none is the zero one. -/
def tab (S : List (Option Vt)) : List Vt := S.map (·.getD zero)
/-- Is x better than b? -/
def better (x b : Vt) : Bool := decide (b.last < x.last ∨ x.last = b.last ∧ (b.es.length < x.es.length ∨ x.es.length = b.es.length ∧ x.fr < b.fr))
def pickB (b x : Vt) : Vt := if b.fr = 0 ∨ better x b = true then x else b
def step (p : Vt × Int) (x : Vt) : Vt × Int := (pickB p.1 x, max p.2 x.com)
def run (l : List Vt) : Vt × Int := l.foldl step (zero, 0)
def cutc (p : Vt × Int) : Vt := ⟨p.1.fr, p.1.last, p.1.es, min p.2 p.1.es.length⟩
def best (n : Int) (S : List (Option Vt)) : Vt := if most (tm S) n = true then cutc (run (got S)) else zero

theorem tm_lt (S : List (Option Vt)) : tm S < 128 := ofL_lt _
theorem tm_has (S : List (Option Vt)) {k : Nat} (hk : k < 7) : has (tm S) ((k : Int) + 1) = (S.getD k none).isSome := by
  unfold tm
  rw [has_ofL _ _ (by omega) (by omega), Bool.eq_iff_iff, List.contains_iff_mem]
  unfold ids
  rw [List.mem_map]
  constructor
  · rintro ⟨j, hj, e⟩
    obtain rfl : j = k := by omega
    exact (List.mem_filter.1 hj).2
  · intro h
    exact ⟨k, List.mem_filter.2 ⟨List.mem_range.2 hk, h⟩, rfl⟩
theorem tm_bit (S : List (Option Vt)) {k : Nat} (hk : k < 7) : (tm S).testBit k = (S.getD k none).isSome := by rw [← has_in _ k (tm_lt S) hk, tm_has S hk]
theorem bits_ext {t u : Nat} (ht : t < 128) (hu : u < 128) (h : ∀ k, k < 7 → t.testBit k = u.testBit k) : t = u := by
  apply Nat.eq_of_testBit_eq
  intro i
  by_cases hi : i < 7
  · exact h i hi
  · have hp : 2 ^ 7 ≤ 2 ^ i := Nat.pow_le_pow_right (by decide) (by omega)
    rw [Nat.testBit_lt_two_pow (by omega), Nat.testBit_lt_two_pow (by omega)]
theorem getD_set {α : Type} (S : List α) (k j : Nat) (v z : α) : (S.set k v).getD j z = if k = j ∧ j < S.length then v else S.getD j z := by
  rw [List.getD_eq_getElem?_getD, List.getD_eq_getElem?_getD, List.getElem?_set]
  by_cases h : k = j
  · subst h
    by_cases hl : k < S.length
    · rw [if_pos rfl, if_pos hl, if_pos ⟨rfl, hl⟩]; rfl
    · rw [if_pos rfl, if_neg hl, if_neg (fun q => hl q.2), List.getElem?_eq_none (by omega)]
  · rw [if_neg h, if_neg (fun q => h q.1)]
theorem tm_put (S : List (Option Vt)) (h7 : S.length = 7) (v : Vt) (h1 : 1 ≤ v.fr) (h2 : v.fr ≤ 7) : tm (put S v) = wth (tm S) v.fr := by
  refine bits_ext (tm_lt _) (wth_lt (tm_lt S) _) fun k hk => ?_
  rw [tm_bit _ hk]
  unfold wth
  rw [Nat.testBit_or, tm_bit _ hk, bit_one v.fr k hk]
  unfold put
  rw [getD_set]
  by_cases e : v.fr = k + 1
  · rw [if_pos ⟨by omega, by omega⟩]; simp [e]
  · rw [if_neg (fun q => e (by omega))]; simp [e]
theorem tm_none : tm none7 = 0 := by decide
theorem put_len (S : List (Option Vt)) (v : Vt) : (put S v).length = S.length := List.length_set ..
theorem add_len (view n : Int) (S : List (Option Vt)) (v : Vt) : (add view n S v).length = S.length := by unfold add; split; exact put_len S v; rfl
theorem lst_tm (S : List (Option Vt)) : lst (tm S) = ids S := by
  show ((List.range 7).filter fun i => (tm S).testBit i).map (fun i : Nat => (i : Int) + 1) = _
  unfold ids
  congr 1
  exact List.filter_congr fun k hk => tm_bit S (List.mem_range.1 hk)
theorem cnt_ids (S : List (Option Vt)) : cnt (tm S) = (ids S).length := by rw [← lst_tm, lst_length]
/-- The votes, one by one, by who voted. -/
theorem fm_range (S : List (Option Vt)) : ∀ m, m ≤ S.length → (S.take m).filterMap id = ((List.range m).filter fun k => (S.getD k none).isSome).map fun k => (S.getD k none).getD zero := by
  intro m
  induction m with
  | zero => intro _; rfl
  | succ m ih =>
    intro hm
    have hx : S[m]? = some S[m] := List.getElem?_eq_getElem (by omega)
    have e0 : S.take (m + 1) = S.take m ++ [S[m]] := by rw [List.take_add_one, hx]; rfl
    have e1 : S.getD m none = S[m] := by rw [List.getD_eq_getElem?_getD, hx]; rfl
    rw [e0, List.filterMap_append, ih (by omega), List.range_succ, List.filter_append, List.map_append]
    congr 1
    cases ho : S[m] with
    | none =>
      rw [ho] at e1
      have q : ([m].filter fun k => (S.getD k none).isSome) = [] := by rw [List.filter_cons, e1]; rfl
      rw [q]; rfl
    | some v =>
      rw [ho] at e1
      have q : ([m].filter fun k => (S.getD k none).isSome) = [m] := by rw [List.filter_cons, e1]; rfl
      rw [q]
      show _ = [(S.getD m none).getD zero]
      rw [e1]; rfl
theorem got_ids (S : List (Option Vt)) (h7 : S.length = 7) : got S = (ids S).map fun i => (S.getD (i - 1).toNat none).getD zero := by
  have h := fm_range S 7 (by omega)
  rw [List.take_of_length_le (by omega)] at h
  show S.filterMap id = _
  rw [h]
  unfold ids
  rw [List.map_map]
  congr 1
  funext k
  simp only [Function.comp]
  rw [show ((k : Int) + 1 - 1).toNat = k by omega]
theorem got_len (S : List (Option Vt)) (h7 : S.length = 7) : (got S).length = cnt (tm S) := by rw [got_ids S h7, cnt_ids, List.length_map]
/-- The vote that the i-th who voted gave. -/
theorem got_at (S : List (Option Vt)) (h7 : S.length = 7) {i : Nat} {x : Int} (h : (lst (tm S))[i]? = some x) : ∃ k : Nat, k < 7 ∧ x = (k : Int) + 1 ∧ ∃ v, S[k]? = some (some v) ∧ (tab S)[k]? = some v ∧ (got S)[i]? = some v := by
  rw [lst_tm] at h
  have hm : x ∈ ids S := List.mem_of_getElem? h
  unfold ids at hm
  obtain ⟨k, hk, e⟩ := List.mem_map.1 hm
  obtain ⟨hk1, hk2⟩ := List.mem_filter.1 hk
  have hk7 := List.mem_range.1 hk1
  have hx : S[k]? = some (S.getD k none) := by rw [List.getD_eq_getElem?_getD, List.getElem?_eq_getElem (by omega)]; rfl
  obtain ⟨v, hv⟩ := Option.isSome_iff_exists.1 hk2
  rw [hv] at hx
  refine ⟨k, hk7, e.symm, v, hx, ?_, ?_⟩
  · unfold tab; rw [List.getElem?_map, hx]; rfl
  · rw [got_ids S h7, List.getElem?_map, h]
    show some ((S.getD (x - 1).toNat none).getD zero) = _
    rw [show (x - 1).toNat = k by omega, hv]; rfl
theorem tab_len (S : List (Option Vt)) : (tab S).length = S.length := List.length_map _
theorem tab_put (S : List (Option Vt)) (v : Vt) : tab (put S v) = (tab S).set (v.fr - 1).toNat v := by
  unfold tab put; rw [List.map_set]; rfl
theorem run_nil : run [] = (zero, 0) := rfl
theorem run_snoc (l : List Vt) (x : Vt) : run (l ++ [x]) = step (run l) x := by unfold run; rw [List.foldl_append]; rfl
theorem run_take {l : List Vt} {i : Nat} {x : Vt} (h : l[i]? = some x) : run (l.take (i + 1)) = step (run (l.take i)) x := by
  rw [List.take_add_one, h]; exact run_snoc _ _

/-- The place of each vote. -/
def Pl (S : List (Option Vt)) : Prop := ∀ (k : Nat) (v : Vt), S[k]? = some (some v) → v.fr = (k : Int) + 1 ∧ v.es.length ≤ 60
theorem pl_none : Pl none7 := by
  intro k v h
  have := List.mem_of_getElem? h
  simp [none7] at this
theorem pl_put {S : List (Option Vt)} (h : Pl S) {v : Vt} (h1 : 1 ≤ v.fr) (hl : v.es.length ≤ 60) : Pl (put S v) := by
  intro k x hx
  unfold put at hx
  rw [List.getElem?_set] at hx
  split at hx
  · next e =>
    split at hx
    · have : x = v := by simpa using hx.symm
      subst this; exact ⟨by omega, hl⟩
    · cases hx
  · exact h k x hx
theorem log_sub : ∀ (es L : List Ent), (es.foldl PLog.add L).length = L.length + es.length → es.foldl PLog.add L = L ++ es := by
  intro es
  induction es with
  | nil => intro L _; simp
  | cons e r ih =>
    intro L h
    have hle : ∀ (es L : List Ent), (es.foldl PLog.add L).length ≤ L.length + es.length := by
      intro es
      induction es with
      | nil => intro L; simp
      | cons e r ih =>
        intro L
        have h1 := ih (PLog.add L e)
        have h2 : (PLog.add L e).length ≤ L.length + 1 := by unfold PLog.add; split <;> simp
        rw [List.foldl_cons, List.length_cons]; omega
    rw [List.foldl_cons] at h ⊢
    have h1 := hle r (PLog.add L e)
    rw [List.length_cons] at h
    by_cases hc : PLog.can L e = true
    · have ea : PLog.add L e = L ++ [e] := by unfold PLog.add; rw [if_pos hc]
      rw [ea] at h ⊢
      have el : (L ++ [e]).length = L.length + 1 := by simp
      rw [ih _ (by rw [el]; omega), List.append_assoc]; rfl
    · have ea : PLog.add L e = L := by unfold PLog.add; rw [if_neg hc]
      rw [ea] at h h1
      omega
theorem log_len_le (es : List Ent) : (PLog.log es).length ≤ es.length := by
  have hle : ∀ (es L : List Ent), (es.foldl PLog.add L).length ≤ L.length + es.length := by
    intro es
    induction es with
    | nil => intro L; simp
    | cons e r ih =>
      intro L
      have h1 := ih (PLog.add L e)
      have h2 : (PLog.add L e).length ≤ L.length + 1 := by unfold PLog.add; split <;> simp
      rw [List.foldl_cons, List.length_cons]; omega
  have := hle es []
  simpa [PLog.log] using this
theorem log_eq_of_len {es : List Ent} (h : (PLog.log es).length = es.length) : PLog.log es = es := log_sub es [] (by simpa [PLog.log] using h)
theorem good_from {view n : Int} {v : Vt} (h : good view n v = true) : 1 ≤ v.fr ∧ v.fr ≤ n := by
  unfold good at h; simp only [Bool.and_eq_true, decide_eq_true_eq] at h; exact h.1.1.1
theorem good_log {view n : Int} {v : Vt} (h : good view n v = true) : PLog.log v.es = v.es := by
  unfold good isLog at h; simp only [Bool.and_eq_true, decide_eq_true_eq] at h
  obtain ⟨⟨⟨_, _⟩, h⟩, _⟩ := h
  exact log_eq_of_len h
theorem ok_good {view n : Int} {S : List (Option Vt)} {v : Vt} (h : ok view n S v = true) : good view n v = true := by
  unfold ok at h; rw [Bool.and_eq_true] at h; exact h.1
theorem ok_free {view n : Int} {S : List (Option Vt)} {v : Vt} (h : ok view n S v = true) : has (tm S) v.fr = false := by
  unfold ok at h; rw [Bool.and_eq_true] at h; simpa using h.2
theorem pl_add {view n : Int} {S : List (Option Vt)} (h : Pl S) (v : Vt) : Pl (add view n S v) := by
  unfold add; split
  · next hk => exact pl_put h (good_from (ok_good hk)).1 (by have := good_log (ok_good hk); rw [← this]; exact PLog.log_len _)
  · exact h

/-- The order in which votes come says nothing of the best one. -/
theorem step_comm (p : Vt × Int) (x y : Vt) (hx : 1 ≤ x.fr) (hy : 1 ≤ y.fr) (hxy : x.fr = y.fr → x = y) : step (step p x) y = step (step p y) x := by
  obtain ⟨b, c⟩ := p
  unfold step
  have e2 : max (max c x.com) y.com = max (max c y.com) x.com := by omega
  simp only [e2, Prod.mk.injEq, and_true]
  by_cases e : x = y
  · subst e; rfl
  have hne : x.fr ≠ y.fr := fun q => e (hxy q)
  simp only [pickB, better, decide_eq_true_eq]
  repeat' split
  all_goals first
    | rfl
    | (exfalso; omega)
theorem run_perm {l l' : List Vt} (h : l.Perm l') (h1 : ∀ x ∈ l, 1 ≤ x.fr) (hd : ∀ x ∈ l, ∀ y ∈ l, x.fr = y.fr → x = y) : run l = run l' :=
  h.foldl_eq' (fun x hx y hy z => step_comm z x y (h1 x hx) (h1 y hy) (hd x hx y hy)) _
theorem pickB_le {b x : Vt} (hb : b.es.length ≤ 60) (hx : x.es.length ≤ 60) : (pickB b x).es.length ≤ 60 := by
  unfold pickB; split
  · exact hx
  · exact hb
theorem run_le : ∀ (l : List Vt), (∀ x ∈ l, x.es.length ≤ 60) → (run l).1.es.length ≤ 60 := by
  have key : ∀ (l : List Vt) (p : Vt × Int), p.1.es.length ≤ 60 → (∀ x ∈ l, x.es.length ≤ 60) → (l.foldl step p).1.es.length ≤ 60 := by
    intro l
    induction l with
    | nil => intro p h _; exact h
    | cons x l ih => intro p h hl; exact ih _ (pickB_le h (hl x (List.mem_cons_self ..))) (fun y hy => hl y (List.mem_cons_of_mem _ hy))
  exact fun l h => key l _ (by decide) h
/-- The document's votes, in the order in which they came. -/
structure Mt (L : List Vt) (S : List (Option Vt)) : Prop where
  len : S.length = 7
  pl : Pl S
  perm : (got S).Perm L
theorem got_put (S : List (Option Vt)) {k : Nat} (hk : k < S.length) (h : S.getD k none = none) (v : Vt) : (got (S.set k (some v))).Perm (v :: got S) := by
  have hx : S[k] = none := by rw [List.getD_eq_getElem?_getD, List.getElem?_eq_getElem hk] at h; simpa using h
  have e2 : S = S.take k ++ none :: S.drop (k + 1) := by
    have q := (List.take_append_drop k S).symm
    rw [List.drop_eq_getElem_cons hk, hx] at q
    exact q
  have e1 : S.set k (some v) = S.take k ++ some v :: S.drop (k + 1) := by rw [List.set_eq_take_append_cons_drop, if_pos hk]
  have q1 : got (S.set k (some v)) = (S.take k).filterMap id ++ v :: (S.drop (k + 1)).filterMap id := by
    unfold got; rw [e1, List.filterMap_append, List.filterMap_cons]; rfl
  have q2 : got S = (S.take k).filterMap id ++ (S.drop (k + 1)).filterMap id := by
    have := congrArg got e2
    rw [this]
    unfold got; rw [List.filterMap_append, List.filterMap_cons]; rfl
  rw [q1, q2]
  exact List.perm_middle
theorem free_at {view n : Int} {S : List (Option Vt)} {v : Vt} (h : ok view n S v = true) (hn : n ≤ 7) : ∃ k : Nat, k < 7 ∧ v.fr = (k : Int) + 1 ∧ S.getD k none = none := by
  have hf := good_from (ok_good h)
  refine ⟨(v.fr - 1).toNat, by omega, by omega, ?_⟩
  have := ok_free h
  rw [show v.fr = (((v.fr - 1).toNat : Nat) : Int) + 1 by omega, tm_has S (by omega)] at this
  simpa using this
theorem Mt.add {L : List Vt} {S : List (Option Vt)} (h : Mt L S) {view n : Int} {v : Vt} (hk : ok view n S v = true) (hn : n ≤ 7) : Mt (L ++ [v]) (add view n S v) := by
  obtain ⟨k, hk7, e, hnone⟩ := free_at hk hn
  have hadd : PVote.add view n S v = S.set k (some v) := by unfold PVote.add put; rw [if_pos hk]; congr 1; omega
  refine ⟨by rw [add_len, h.len], pl_add h.pl v, ?_⟩
  rw [hadd]
  refine (got_put S (by rw [h.len]; exact hk7) hnone v).trans ?_
  refine (List.Perm.cons v h.perm).trans ?_
  exact (List.perm_append_singleton v L).symm
theorem got_mem {S : List (Option Vt)} {v : Vt} (h : v ∈ got S) : ∃ k : Nat, S[k]? = some (some v) := by
  unfold got at h
  obtain ⟨o, ho, e⟩ := List.mem_filterMap.1 h
  have : o = some v := e
  subst this
  exact List.getElem?_of_mem ho
theorem Mt.ones {L : List Vt} {S : List (Option Vt)} (h : Mt L S) : ∀ x ∈ L, 1 ≤ x.fr ∧ x.fr ≤ 7 := by
  intro x hx
  obtain ⟨k, hk⟩ := got_mem (h.perm.mem_iff.2 hx)
  have h1 := (h.pl k x hk).1
  have h2 := (List.getElem?_eq_some_iff.1 hk).1
  have h3 := h.len
  omega
theorem Mt.run {L : List Vt} {S : List (Option Vt)} (h : Mt L S) : run (got S) = run L :=
  run_perm h.perm (fun x hx => (h.ones x (h.perm.mem_iff.1 hx)).1) (fun x hx y hy e => by
    obtain ⟨k, hk⟩ := got_mem hx
    obtain ⟨j, hj⟩ := got_mem hy
    have h1 := (h.pl k x hk).1
    have h2 := (h.pl j y hj).1
    have : k = j := by omega
    subst this
    rw [hk] at hj; simpa using hj)
theorem Mt.len_eq {L : List Vt} {S : List (Option Vt)} (h : Mt L S) : L.length = cnt (tm S) := by rw [← got_len S h.len]; exact h.perm.length_eq.symm
theorem Mt.le {L : List Vt} {S : List (Option Vt)} (h : Mt L S) : L.length ≤ 7 := by rw [h.len_eq]; exact cnt_le _
/-- The order in which they come, each of another one. -/
theorem add_comm {view n : Int} (hn : n ≤ 7) (S : List (Option Vt)) {x y : Vt} (hxy : x.fr = y.fr → x = y) : add view n (add view n S x) y = add view n (add view n S y) x := by
  by_cases e : x = y
  · subst e; rfl
  have hne : x.fr ≠ y.fr := fun q => e (hxy q)
  have key : ∀ (u v : Vt), u.fr ≠ v.fr → good view n v = true → good view n u = true → ok view n (put S u) v = ok view n S v := by
    intro u v hu hv hu2
    have h1 := good_from hv
    have h2 := good_from hu2
    unfold ok
    congr 2
    rw [show v.fr = (((v.fr - 1).toNat : Nat) : Int) + 1 by omega, tm_has _ (by omega), tm_has _ (by omega)]
    congr 1
    unfold put
    rw [getD_set, if_neg (fun q => hu (by omega))]
  cases gx : good view n x with
  | false =>
    have hx : ∀ S, add view n S x = S := fun S => by unfold add ok; rw [gx]; rfl
    rw [hx, hx]
  | true =>
    cases gy : good view n y with
    | false =>
      have hy : ∀ S, add view n S y = S := fun S => by unfold add ok; rw [gy]; rfl
      rw [hy, hy]
    | true =>
      have h1 := good_from gx
      have h2 := good_from gy
      have k1 := key x y hne gy gx
      have k2 := key y x (fun q => hne q.symm) gx gy
      unfold add
      cases ox : ok view n S x <;> cases oy : ok view n S y
      · simp [ox, oy]
      · simp [ox, oy, k2]
      · simp [ox, oy, k1]
      · simp only [if_true, k1, k2, ox, oy]
        unfold put
        exact List.set_comm _ _ (by omega)
end PVote
end Go.Proofs.YtacipjdaiglnjaaGreatDoor

/- 'Vs': the program's votes at block g, with the blocks that are its own; 'VsW': what a call that writes them leaves; rows of votes. -/
namespace Go.Proofs.YtacipjdaiglnjaaGreatDoor
open Go.RowKit PVote

/-- A vote with a slice beside it. -/
structure Vp where
  m : Vt
  A : Option Addr
  c : Nat
def vcs (p : Vp) : List Value := [.int .i64 p.m.fr, .int .i64 p.m.last, .slice p.A p.m.es.length p.c, .int .i64 p.m.com]
def vrs (P : List Vp) : List Value := P.flatMap vcs
def vv (m : Vt) (A : Option Addr) (c : Nat) : Value := .agg #[.int .i64 m.fr, .int .i64 m.last, .slice A m.es.length c, .int .i64 m.com]
theorem vcs_length (p : Vp) : (vcs p).length = 4 := rfl
theorem vrs_length (P : List Vp) : (vrs P).length = P.length * 4 := rows_len vcs_length P
theorem vrs_append (a b : List Vp) : vrs (a ++ b) = vrs a ++ vrs b := by simp [vrs]
theorem vrs_cons (a : Vp) (b : List Vp) : vrs (a :: b) = vcs a ++ vrs b := by simp [vrs]
theorem vrs_at {P : List Vp} {i : Nat} {p : Vp} (h : P[i]? = some p) {j : Nat} (hj : j < 4) : (vrs P)[i * 4 + j]? = (vcs p)[j]? := rows_at vcs_length h hj
/-- A vote is stored at its place. -/
theorem vrs_set (hd : List Value) (P : List Vp) {k : Nat} (hk : k < P.length) (p : Vp) :
    ((((hd ++ vrs P).set (hd.length + k * 4) (.int .i64 p.m.fr)).set (hd.length + k * 4 + 1) (.int .i64 p.m.last)).set (hd.length + k * 4 + 2) (.slice p.A p.m.es.length p.c)).set (hd.length + k * 4 + 3) (.int .i64 p.m.com) = hd ++ vrs (P.set k p) := by
  have e2 : P = P.take k ++ P[k] :: P.drop (k + 1) := by
    have q := (List.take_append_drop k P).symm
    rw [List.drop_eq_getElem_cons hk] at q
    exact q
  have e1 : P.set k p = P.take k ++ p :: P.drop (k + 1) := by rw [List.set_eq_take_append_cons_drop, if_pos hk]
  have l1 : (hd ++ vrs (P.take k)).length = hd.length + k * 4 := by rw [List.length_append, vrs_length, List.length_take]; congr 2; omega
  have f1 : hd ++ vrs (P.set k p) = (hd ++ vrs (P.take k)) ++ (vcs p ++ vrs (P.drop (k + 1))) := by rw [e1, vrs_append, vrs_cons, List.append_assoc]
  have f2 : hd ++ vrs P = (hd ++ vrs (P.take k)) ++ (vcs P[k] ++ vrs (P.drop (k + 1))) := by
    have := congrArg vrs e2
    rw [this, vrs_append, vrs_cons, List.append_assoc]
  rw [f1, f2, ← l1]
  generalize hd ++ vrs (P.take k) = X
  generalize vrs (P.drop (k + 1)) = Y
  have s : ∀ (j : Nat) (Z : List Value) (v : Value), (X ++ Z).set (X.length + j) v = X ++ Z.set j v := by
    intro j Z v
    rw [List.set_append_right _ _ (by omega)]; congr 2; omega
  have s0 : ∀ (Z : List Value) (v : Value), (X ++ Z).set X.length v = X ++ Z.set 0 v := fun Z v => s 0 Z v
  rw [s0, s 1, s 2, s 3]
  rfl

/-- The votes at block g: for that view, of n processes; S: who voted what. F are its blocks. -/
structure Vs (w : World) (g : Nat) (F : List Nat) (view n : Int) (S : List (Option Vt)) : Prop where
  ex : ∃ P : List Vp, P.map Vp.m = tab S ∧ Blk w g 211 ([.int .i64 view, .int .i64 n, .int .i64 (tm S)] ++ vrs P) ∧ (∀ p ∈ P, Ow w 0 93 7 p.A p.m.es.length p.c (els p.m.es)) ∧ F = g :: P.flatMap fun p => bl p.A
  len : S.length = 7

section
variable {w w' : World} {g : Nat} {F T : List Nat} {view n : Int} {S : List (Option Vt)}
theorem Vs.hi (h : Vs w g F view n S) : ∀ k ∈ F, k < w.heap.size := by
  obtain ⟨P, _, hB, hO, rfl⟩ := h.ex
  intro k hk
  rcases List.mem_cons.1 hk with rfl | hk
  · exact hB.lt
  · obtain ⟨p, hp, hk⟩ := List.mem_flatMap.1 hk
    exact (hO p hp).hi k (mem_bl.1 hk)
theorem Vs.self (h : Vs w g F view n S) : g ∈ F := by obtain ⟨P, _, hB, hO, rfl⟩ := h.ex; exact List.mem_cons_self ..
theorem Vs.blk (h : Vs w g F view n S) : ∃ xs, Blk w g 211 xs := by obtain ⟨P, _, hB, hO, rfl⟩ := h.ex; exact ⟨_, hB⟩
theorem Vs.ne (h : Vs w g F view n S) {x : Nat} {e : TypeId} {xs : List Value} (K : Blk w x e xs) (he : e ≠ 211) : x ∉ [g] := by
  obtain ⟨ys, hB⟩ := h.blk
  simpa using K.ne hB he
theorem Vs.lt (h : Vs w g F view n S) : g < w.heap.size := h.hi g h.self
theorem Vs.touch (h : Vs w g F view n S) (ht : Touch T w w') (hd : ∀ k ∈ T, k ∉ F) : Vs w' g F view n S := by
  obtain ⟨P, hP, hB, hO, rfl⟩ := h.ex
  exact ⟨⟨P, hP, hB.touch ht (fun hm => hd g hm (List.mem_cons_self ..)), fun p hp => (hO p hp).touch ht (fun s hs e => hd s hs (List.mem_cons_of_mem _ (List.mem_flatMap.2 ⟨p, hp, mem_bl.2 e⟩))), rfl⟩, h.len⟩
theorem Vs.past (h : Vs w g F view n S) (hb : Below w.heap.size w w') : Vs w' g F view n S := h.touch (T := []) (.of_below hb) (by simp)
theorem Vs.drew (h : Vs w g F view n S) : Vs w.drew g F view n S := ⟨h.ex, h.len⟩
theorem Vs.drawn (h : Vs w g F view n S) (q : Nat) : Vs (w.drewN q) g F view n S := h.past ⟨rfl, rfl, rfl, Nat.le_refl _, fun _ _ => rfl⟩
theorem Vs.alloc (h : Vs w g F view n S) (o : Obj) : Vs (w.alloc o) g F view n S := h.past ((Below.refl _ _).alloc (Nat.le_refl _) _)
theorem Vs.head (h : Vs w g F view n S) : w.cell? ⟨g, 0, none⟩ = some (.int .i64 view) ∧ w.cell? ⟨g, 1, none⟩ = some (.int .i64 n) ∧ w.cell? ⟨g, 2, none⟩ = some (.int .i64 (tm S)) := by
  obtain ⟨P, hP, hB, hO, rfl⟩ := h.ex
  exact ⟨hB.cell (i := 0) rfl, hB.cell (i := 1) rfl, hB.cell (i := 2) rfl⟩
/-- The vote at place k, in place. -/
theorem Vs.at_ (h : Vs w g F view n S) {k : Nat} {v : Vt} (hv : (tab S)[k]? = some v) : ∃ (A : Option Addr) (c : Nat), w.rangeAt g (3 + k * 4) [.int .i64 v.fr, .int .i64 v.last, .slice A v.es.length c, .int .i64 v.com] ∧ Rd w w.heap.size A c 7 v.es.length (els v.es) := by
  obtain ⟨P, hP, hB, hO, rfl⟩ := h.ex
  have hlt : k < P.length := by
    have := (List.getElem?_eq_some_iff.1 hv).1
    rw [← hP] at this; simpa using this
  have hp : P[k]? = some P[k] := List.getElem?_eq_getElem hlt
  have hm : P[k].m = v := by
    have := hv
    rw [← hP, List.getElem?_map, hp] at this
    simpa using this
  refine ⟨P[k].A, P[k].c, fun j u hu => ?_, ?_⟩
  · have hj : j < 4 := (List.getElem?_eq_some_iff.1 hu).1
    refine hB.cell ?_
    rw [List.getElem?_append_right (by simp; omega)]
    have e : 3 + k * 4 + j - [Value.int .i64 view, .int .i64 n, .int .i64 (tm S)].length = k * 4 + j := by simp; omega
    rw [e, vrs_at hp hj, ← hu]
    unfold vcs
    rw [hm]
  · have := (hO P[k] (List.getElem_mem _)).rd
    rw [hm] at this
    exact this
/-- What a call leaves that writes the votes at block g, whose blocks were F. -/
structure VsW (w w' : World) (g : Nat) (F : List Nat) (view n : Int) (S : List (Option Vt)) : Prop where
  ex : ∃ F', Vs w' g F' view n S ∧ ∀ k ∈ F', k ∈ F ∨ w.heap.size ≤ k
  touch : Touch [g] w w'
theorem VsW.same (h : Vs w g F view n S) (hb : Below w.heap.size w w') : VsW w w' g F view n S := ⟨⟨F, h.past hb, fun _ hk => .inl hk⟩, .of_below hb⟩
/-- A vote is stored at its place, who voted behind it. -/
theorem Vs.store {w0 w1 w2 : World} (h : Vs w g F view n S) (hb : Below w0.heap.size w0 w) (v : Vt) {A : Option Addr} {c : Nat} (h1 : 1 ≤ v.fr) (h7 : v.fr ≤ 7) (hO : Ow w w0.heap.size 93 7 A v.es.length c (els v.es))
    (e1 : w1 = (w.setCells g (3 + (v.fr - 1).toNat * 4) [.int .i64 v.fr, .int .i64 v.last, .slice A v.es.length c, .int .i64 v.com]).drew) (e2 : w2 = w1.setCell ⟨g, 2, none⟩ (.int .i64 (tm (put S v)))) :
    VsW w0 w2 g F view n (put S v) := by
  obtain ⟨P, hP, hB, hOs, rfl⟩ := h.ex
  have hl : P.length = 7 := by have := congrArg List.length hP; rw [List.length_map, tab_len, h.len] at this; exact this
  have hk : (v.fr - 1).toNat < P.length := by omega
  have hB1 : Blk w1 g 211 ([.int .i64 view, .int .i64 n, .int .i64 (tm S)] ++ vrs (P.set (v.fr - 1).toNat ⟨v, A, c⟩)) := by
    rw [e1]
    have := (((hB.set (3 + (v.fr - 1).toNat * 4) (.int .i64 v.fr)).set (3 + (v.fr - 1).toNat * 4 + 1) (.int .i64 v.last)).set (3 + (v.fr - 1).toNat * 4 + 2) (.slice A v.es.length c)).set (3 + (v.fr - 1).toNat * 4 + 3) (.int .i64 v.com)
    have q := vrs_set [.int .i64 view, .int .i64 n, .int .i64 (tm S)] P hk ⟨v, A, c⟩
    rw [← q]
    exact this.drew
  have hB2 : Blk w2 g 211 ([.int .i64 view, .int .i64 n, .int .i64 (tm (put S v))] ++ vrs (P.set (v.fr - 1).toNat ⟨v, A, c⟩)) := by
    rw [e2]
    exact hB1.set 2 _
  have ht : Touch [g] w w2 := by
    rw [e2, e1]
    have t4 := ((((Touch.refl [g] w).cell (List.mem_singleton.2 rfl) (3 + (v.fr - 1).toNat * 4) (.int .i64 v.fr)).cell (List.mem_singleton.2 rfl) (3 + (v.fr - 1).toNat * 4 + 1) (.int .i64 v.last)).cell (List.mem_singleton.2 rfl) (3 + (v.fr - 1).toNat * 4 + 2) (.slice A v.es.length c)).cell (List.mem_singleton.2 rfl) (3 + (v.fr - 1).toNat * 4 + 3) (.int .i64 v.com)
    exact (Touch.drew t4).cell (List.mem_singleton.2 rfl) _ _
  have keep : ∀ {B : Option Addr} {b l : Nat} {x : List Value} {base : Nat}, Ow w base 93 7 B l b x → Ow w2 base 93 7 B l b x := fun hO => hO.touch ht (fun s hs => by
    rw [List.mem_singleton.1 hs]; exact hO.ne hB (by decide))
  refine ⟨⟨g :: (P.set (v.fr - 1).toNat ⟨v, A, c⟩).flatMap fun p => bl p.A, ⟨⟨P.set (v.fr - 1).toNat ⟨v, A, c⟩, ?_, hB2, fun p hp => ?_, rfl⟩, by rw [put_len]; exact h.len⟩, fun k hk => ?_⟩, (Touch.of_below hb).trans ht⟩
  · rw [List.map_set, hP, tab_put]
  · rcases List.mem_or_eq_of_mem_set hp with q | rfl
    · exact keep (hOs p q)
    · exact keep (hO.down (Nat.zero_le _))
  · rcases List.mem_cons.1 hk with rfl | hk
    · exact .inl (List.mem_cons_self ..)
    · obtain ⟨p, hp, hk⟩ := List.mem_flatMap.1 hk
      rcases List.mem_or_eq_of_mem_set hp with q | rfl
      · exact .inl (List.mem_cons_of_mem _ (List.mem_flatMap.2 ⟨p, q, hk⟩))
      · exact .inr (hO.low k (mem_bl.1 hk))
end
/-- Votes that were just made. -/
theorem Vs.new (w : World) (view n : Int) (us : Array Value) (hu : us.toList = [.int .i64 view, .int .i64 n, .int .i64 0] ++ vrs (List.replicate 7 ⟨zero, none, 0⟩)) :
    Vs (w.alloc (.cells us 211)) w.heap.size [w.heap.size] view n none7 := by
  refine ⟨⟨List.replicate 7 ⟨zero, none, 0⟩, rfl, ?_, fun p hp => ?_, rfl⟩, rfl⟩
  · have := Blk.new w us 211
    rw [hu] at this
    rw [tm_none]; exact this
  · rw [List.eq_of_mem_replicate hp]
    exact Ow.nil _ _ _ _
end Go.Proofs.YtacipjdaiglnjaaGreatDoor

/- An int's cells in the program. -/
namespace Go.Proofs.YtacipjdaiglnjaaGreatDoor
open Go.RowKit

theorem int_info : (Tryz.prog.info? 3).map (fun i => (i.zero, i.size, i.bytes)) = some (some (.int .i64 0), 1, 8) := by kernel_rfl

/-- Ints, as cells. -/
def is (l : List Int) : List Value := l.map (Value.int .i64)
theorem is_length (l : List Int) : (is l).length = l.length := by simp [is]
theorem is_getD (l : List Int) (i : Nat) (h : i < l.length) : (is l).getD i undef = .int .i64 (l.getD i 0) := by
  simp [is, List.getD, List.getElem?_map, List.getElem?_eq_getElem h]
theorem Rd.ilen {w : World} {B : Nat} {A : Option Addr} {c n : Nat} {l : List Int} (h : Rd w B A c 1 n (is l)) : l.length = n := by
  have := h.len; rw [is_length] at this; omega
theorem Rd.int {w : World} {B : Nat} {A : Option Addr} {c n : Nat} {l : List Int} (h : Rd w B A c 1 n (is l)) {i : Nat} (hi : i < n) :
    ∃ b o x, A = some ⟨b, o, none⟩ ∧ w.cell? ⟨b, o + i, none⟩ = some (.int .i64 x) ∧ l.drop i = x :: l.drop (i + 1) ∧ x = l.getD i 0 := by
  have hl : i < l.length := by have := h.ilen; omega
  obtain ⟨b, o, hA, _, hc⟩ := h.at_ hi
  refine ⟨b, o, l[i], hA, ?_, List.drop_eq_getElem_cons hl, by simp [List.getD, List.getElem?_eq_getElem hl]⟩
  rw [hc, is_getD _ _ hl]
  simp [List.getD, List.getElem?_eq_getElem hl]

end Go.Proofs.YtacipjdaiglnjaaGreatDoor

/- Contracts of package team: first, mayCount, May. -/
namespace Go.Proofs.YtacipjdaiglnjaaGreatDoor
open Go.RowKit

theorem i64_nat (a b : Nat) (ha : a < 9223372036854775808) (hb : b < 9223372036854775808) : bits .and .i64 (a : Int) (b : Int) = ((a &&& b : Nat) : Int) ∧ bits .or .i64 (a : Int) (b : Int) = ((a ||| b : Nat) : Int) :=
  bits_nat .i64 63 (by decide) (fun n h1 h2 => by rw [IntKind.wrap_i64]; omega) a b ha hb
theorem i64_bits (x : Int) (m : Nat) (hm : m < 9223372036854775808) : bits .andNot .i64 x (m : Int) = IntKind.i64.wrap (((x % 18446744073709551616).toNat &&& (2 ^ 64 - (m + 1)) : Nat) : Int) := by
  have h1 : (BitVec.ofInt 64 x).toNat = (x % 18446744073709551616).toNat := by rw [BitVec.toNat_ofInt]; rfl
  have h2 : (BitVec.ofInt 64 (m : Int)).toNat = m := by rw [BitVec.ofInt_natCast, BitVec.toNat_ofNat]; exact Nat.mod_eq_of_lt (by omega)
  show IntKind.i64.wrap ((BitVec.ofInt 64 x &&& ~~~BitVec.ofInt 64 (m : Int)).toNat : Int) = _
  rw [BitVec.toNat_and, BitVec.toNat_not, h1, h2]
  have e : 2 ^ 64 - 1 - m = 2 ^ 64 - (m + 1) := by omega
  rw [e]
theorem i64_without (t o : Nat) (ht : t < 128) (ho : o < 128) : bits .andNot .i64 (t : Int) (o : Int) = ((t &&& (127 - o) : Nat) : Int) := by
  rw [i64_bits _ _ (by omega)]
  have e : ((t : Int) % 18446744073709551616).toNat = t := by omega
  rw [e]
  have key : (List.range 128).all (fun t => (List.range 128).all fun o => (t &&& (2 ^ 64 - (o + 1))) == (t &&& (127 - o))) = true := by decide +kernel
  have k1 := List.all_eq_true.1 (List.all_eq_true.1 key t (List.mem_range.2 ht)) o (List.mem_range.2 ho)
  simp only [beq_iff_eq] at k1
  rw [k1, IntKind.wrap_i64]
  have := PTeam.and_lt (127 - o) ht
  omega
theorem i64_may (t : Int) (n : Nat) (h1 : -9223372036854775808 ≤ t) (h2 : t ≤ 9223372036854775807) (hn : n ≤ 7) : (bits .andNot .i64 t ((2 ^ n - 1 : Nat) : Int) == 0) = decide (0 ≤ t ∧ t < 2 ^ n) := by
  have hp : 2 ^ n ≤ 128 := Nat.pow_le_pow_right (n := 2) (by decide) hn
  have hp0 : 0 < 2 ^ n := Nat.two_pow_pos n
  rw [i64_bits _ _ (by omega), IntKind.wrap_i64]
  have hx : (t % 18446744073709551616).toNat < 2 ^ 64 := by omega
  have hm := PTeam.mask_zero (t % 18446744073709551616).toNat n hx
  have hlt : (t % 18446744073709551616).toNat &&& (2 ^ 64 - ((2 ^ n - 1) + 1)) < 2 ^ 64 := Nat.lt_of_le_of_lt Nat.and_le_left hx
  generalize (t % 18446744073709551616).toNat &&& (2 ^ 64 - ((2 ^ n - 1) + 1)) = y at *
  have hc : ((2 : Int) ^ n) = ((2 ^ n : Nat) : Int) := by simp
  rw [hc]
  generalize 2 ^ n = p at *
  rw [Bool.eq_iff_iff]
  simp only [beq_iff_eq, decide_eq_true_eq]
  constructor
  · intro h
    have : y = 0 := by omega
    have := hm.1 this
    omega
  · rintro ⟨h3, h4⟩
    have : y = 0 := hm.2 (by omega)
    omega

theorem first_c (w : World) (n : Int) (h3 : 3 ≤ n) (h7 : n ≤ 7) :
    Calls Tryz.prog 83 #[.int .i64 n] w fun e w' => e = .returned (.int .i64 (2 ^ n.toNat - 1 : Nat)) ∧ w = w' := by
  have hc : n = 3 ∨ n = 4 ∨ n = 5 ∨ n = 6 ∨ n = 7 := by omega
  rcases hc with rfl | rfl | rfl | rfl | rfl
  all_goals
    go_enter Tryz.func83, Tryz.ntmps83
    go_wp2
    go_ret
    exact ⟨rfl, rfl⟩

def okB (n : Int) : Bool := decide (3 ≤ n ∧ n ≤ 7)
theorem mayCount_c (w : World) (n : Int) :
    Calls Tryz.prog 82 #[.int .i64 n] w fun e w' => e = .returned (.bool (okB n)) ∧ w = w' := by
  have h : okB n = (decide (3 ≤ n) && decide (n ≤ 7)) := by unfold okB; exact Bool.decide_and _ _
  have H := Lib.hid h; clear h
  by_cases h3 : 3 ≤ n
  all_goals by_cases h7 : n ≤ 7
  all_goals
    go_enter Tryz.func82, Tryz.ntmps82
    go_wp2
    go_ret
    exact ⟨by rw [H.out]; simp [h3, h7], rfl⟩

theorem tMay_c (w : World) (t n : Int) (h1 : -9223372036854775808 ≤ t) (h2 : t ≤ 9223372036854775807) :
    Calls Tryz.prog 44 #[.int .i64 t, .int .i64 n] w fun e w' => e = .returned (.bool (PTeam.may t n)) ∧ w = w' := by
  have hm : PTeam.may t n = (okB n && decide (0 ≤ t ∧ t < 2 ^ n.toNat)) := rfl
  have HM := Lib.hid hm; clear hm
  cases hb : okB n
  · go_enter Tryz.func44, Tryz.ntmps44
    go_wp2_with fail
    refine (mayCount_c w n).mono ?_
    rintro e w' ⟨rfl, rfl⟩
    go_wp2_with fail
    go_ret
    exact ⟨by rw [HM.out, hb]; rfl, rfl⟩
  · have hb' := of_decide_eq_true hb
    have e1 := i64_may t n.toNat h1 h2 (by omega)
    go_enter Tryz.func44, Tryz.ntmps44
    go_wp2_with fail
    refine (mayCount_c w n).mono ?_
    rintro e w' ⟨rfl, rfl⟩
    go_wp2_with fail
    refine (first_c w n hb'.1 hb'.2).mono ?_
    rintro e w' ⟨rfl, rfl⟩
    go_wp2_with fail
    go_ret
    exact ⟨by rw [HM.out, hb, Bool.true_and, Bool.decide_and]; rfl, rfl⟩

theorem may_lt {t n : Int} (h : PTeam.may t n = true) : 3 ≤ n ∧ n ≤ 7 ∧ 0 ≤ t ∧ t < 128 := by
  unfold PTeam.may at h
  simp only [Bool.and_eq_true, decide_eq_true_eq] at h
  obtain ⟨⟨h3, h7⟩, h0, ht⟩ := h
  have hp : 2 ^ n.toNat ≤ 2 ^ 7 := Nat.pow_le_pow_right (n := 2) (by decide) (by omega)
  have : ((2 ^ n.toNat : Nat) : Int) = (2 : Int) ^ n.toNat := by simp
  omega

end Go.Proofs.YtacipjdaiglnjaaGreatDoor

/- Contracts of package team: only, Has, With, Without, And, first, OnesCount, Len, mayCount, May, Most, Decider, Of. -/
namespace Go.Proofs.YtacipjdaiglnjaaGreatDoor
open Go.RowKit

theorem tOnly_c (w : World) (id : Int) :
    Calls Tryz.prog 132 #[.int .i64 id] w fun e w' => e = .returned (.int .i64 (PTeam.one id : Nat)) ∧ w = w' := by
  by_cases h1 : id < 1
  · go_enter Tryz.func132, Tryz.ntmps132
    go_wp2
    go_ret
    exact ⟨by rw [PTeam.one_out (.inl h1)]; rfl, rfl⟩
  · by_cases h7 : 7 < id
    · go_enter Tryz.func132, Tryz.ntmps132
      go_wp2
      go_ret
      exact ⟨by rw [PTeam.one_out (.inr h7)]; rfl, rfl⟩
    · have hc : id = 1 ∨ id = 2 ∨ id = 3 ∨ id = 4 ∨ id = 5 ∨ id = 6 ∨ id = 7 := by omega
      rcases hc with rfl | rfl | rfl | rfl | rfl | rfl | rfl
      all_goals
        go_enter Tryz.func132, Tryz.ntmps132
        go_wp2
        go_ret
        exact ⟨rfl, rfl⟩

theorem tHas_c (w : World) (t : Nat) (id : Int) (ht : t < 128) :
    Calls Tryz.prog 76 #[.int .i64 t, .int .i64 id] w fun e w' => e = .returned (.bool (PTeam.has t id)) ∧ w = w' := by
  have ho := PTeam.one_lt id
  have e1 := (i64_nat t (PTeam.one id) (by omega) (by omega)).1
  have e2 : (((t &&& PTeam.one id : Nat) : Int) != 0) = PTeam.has t id := by
    unfold PTeam.has
    rw [Bool.eq_iff_iff]; simp
  go_enter Tryz.func76, Tryz.ntmps76
  go_wp2_with fail
  refine (tOnly_c w id).mono ?_
  rintro e w' ⟨rfl, rfl⟩
  go_wp2_with fail
  go_ret
  exact ⟨rfl, rfl⟩

theorem tWith_c (w : World) (t : Nat) (id : Int) (ht : t < 128) :
    Calls Tryz.prog 84 #[.int .i64 t, .int .i64 id] w fun e w' => e = .returned (.int .i64 (PTeam.wth t id : Nat)) ∧ w = w' := by
  have ho := PTeam.one_lt id
  have e1 := (i64_nat t (PTeam.one id) (by omega) (by omega)).2
  go_enter Tryz.func84, Tryz.ntmps84
  go_wp2_with fail
  refine (tOnly_c w id).mono ?_
  rintro e w' ⟨rfl, rfl⟩
  go_wp2_with fail
  go_ret
  exact ⟨rfl, rfl⟩

theorem ones64_c (w : World) (t : Nat) (ht : t < 128) :
    Calls Tryz.prog 230 #[.int .u64 t] w fun e w' => e = .returned (.int .i64 (PTeam.cnt t : Nat)) ∧ w = w' := by
  go_enter Tryz.func230, Tryz.ntmps230
  go_wp2_with fail
  go_ret
  refine ⟨congrArg (fun x => Ending.returned (.int .i64 x)) ?_, rfl⟩
  clear w
  revert ht
  revert t
  decide +kernel

theorem ones_c (w : World) (t : Nat) (ht : t < 128) :
    Calls Tryz.prog 209 #[.int .u64 t] w fun e w' => e = .returned (.int .i64 (PTeam.cnt t : Nat)) ∧ w = w' := by
  go_enter Tryz.func209, Tryz.ntmps209
  go_wp2_with fail
  refine (ones64_c w t ht).mono ?_
  rintro e w' ⟨rfl, rfl⟩
  go_wp2_with fail
  go_ret
  exact ⟨rfl, rfl⟩

theorem tLen_c (w : World) (t : Nat) (ht : t < 128) :
    Calls Tryz.prog 191 #[.int .i64 t] w fun e w' => e = .returned (.int .i64 (PTeam.cnt t : Nat)) ∧ w = w' := by
  have e1 : bits .and .i64 (t : Int) 127 = (t : Int) := by rw [i64_and127]; omega
  go_enter Tryz.func191, Tryz.ntmps191
  go_wp2_with fail
  refine (first_c w 7 (by omega) (by omega)).mono ?_
  rw [show ((2 ^ (7 : Int).toNat - 1 : Nat) : Int) = 127 from rfl]
  rintro e w' ⟨rfl, rfl⟩
  go_wp2_with fail
  refine (ones_c w t ht).mono ?_
  rintro e w' ⟨rfl, rfl⟩
  go_wp2_with fail
  go_ret
  exact ⟨rfl, rfl⟩

theorem tMost_c (w : World) (t n : Int) (h1 : -9223372036854775808 ≤ t) (h2 : t ≤ 9223372036854775807) :
    Calls Tryz.prog 143 #[.int .i64 t, .int .i64 n] w fun e w' => e = .returned (.bool (PTeam.most t n)) ∧ w = w' := by
  have hm : PTeam.most t n = (PTeam.may t n && decide (n / 2 < (PTeam.cnt t.toNat : Int))) := rfl
  have HM := Lib.hid hm; clear hm
  cases hb : PTeam.may t n
  · go_enter Tryz.func143, Tryz.ntmps143
    go_wp2_with fail
    refine (tMay_c w t n h1 h2).mono ?_
    rintro e w' ⟨rfl, rfl⟩
    go_wp2_with fail
    go_ret
    exact ⟨by rw [HM.out, hb]; rfl, rfl⟩
  · obtain ⟨h3, h7, h0, ht⟩ := may_lt hb
    obtain ⟨k, rfl⟩ := Int.eq_ofNat_of_zero_le h0
    go_enter Tryz.func143, Tryz.ntmps143
    go_wp2_with fail
    refine (tMay_c w k n h1 h2).mono ?_
    rintro e w' ⟨rfl, rfl⟩
    go_wp2_with fail
    refine (tLen_c w k (by omega)).mono ?_
    rintro e w' ⟨rfl, rfl⟩
    go_wp2_with fail
    go_ret
    exact ⟨by rw [HM.out, hb]; rfl, rfl⟩

end Go.Proofs.YtacipjdaiglnjaaGreatDoor

/- Deciders. -/
namespace Go.Proofs.YtacipjdaiglnjaaGreatDoor
open Go.RowKit

theorem tDecider_c (w : World) (v n : Int) (h1 : -9223372036854775808 ≤ v) (h2 : v ≤ 9223372036854775807) :
    Calls Tryz.prog 121 #[.int .i64 v, .int .i64 n] w fun e w' => e = .returned (.int .i64 (PTeam.decider v n)) ∧ w = w' := by
  by_cases hv : v < 1
  · have e0 : PTeam.decider v n = 0 := by unfold PTeam.decider; rw [if_pos (by omega)]
    have E := Lib.hid e0; clear e0
    go_enter Tryz.func121, Tryz.ntmps121
    go_wp2
    go_ret
    exact ⟨by rw [E.out]; rfl, rfl⟩
  cases hb : okB n
  · have hb' := of_decide_eq_false hb
    have e0 : PTeam.decider v n = 0 := by unfold PTeam.decider; rw [if_pos (by omega)]
    have E := Lib.hid e0; clear e0
    go_enter Tryz.func121, Tryz.ntmps121
    go_wp2_with fail
    refine (mayCount_c w n).mono ?_
    rintro e w' ⟨rfl, rfl⟩
    go_wp2_with fail
    go_ret
    exact ⟨by rw [E.out]; rfl, rfl⟩
  · have hb' := of_decide_eq_true hb
    have e0 : PTeam.decider v n = 1 + (v - 1) % n := by unfold PTeam.decider; rw [if_neg (by omega)]
    have E := Lib.hid e0; clear e0
    have hn0 : n ≠ 0 := by omega
    have q1 := Int.emod_nonneg (v - 1) hn0
    have q2 := Int.emod_lt_of_pos (v - 1) (show 0 < n by omega)
    go_enter Tryz.func121, Tryz.ntmps121
    go_wp2_with fail
    refine (mayCount_c w n).mono ?_
    rintro e w' ⟨rfl, rfl⟩
    obtain ⟨h3, h7⟩ := hb'
    go_wp2_with fail
    go_ret
    exact ⟨by rw [E.out]; rfl, rfl⟩

end Go.Proofs.YtacipjdaiglnjaaGreatDoor

/- Contracts of package vote: New, View, Team, Enough, isOpen, isBetter; of cmp.Compare, cmp.Or. -/
namespace Go.Proofs.YtacipjdaiglnjaaGreatDoor
open Go.RowKit PVote

/-- What a view, a count are. -/
def VN (view n : Int) : Prop := 1 ≤ view ∧ view ≤ 9223372036854775807 ∧ 3 ≤ n ∧ n ≤ 7
theorem vnew_yes (w : World) (view n : Int) (h : VN view n) :
    Calls Tryz.prog 120 #[.int .i64 view, .int .i64 n] w fun e w' => e = .returned (.pointer (some ⟨w.heap.size, 0, none⟩)) ∧ Vs w' w.heap.size [w.heap.size] view n none7 ∧ Below w.heap.size w w' := by
  obtain ⟨hv, h2, h3, h7⟩ := h
  have h0 : PTeam.decider view n ≠ 0 := by
    unfold PTeam.decider
    rw [if_neg (by omega)]
    have := Int.emod_nonneg (view - 1) (show n ≠ 0 by omega)
    omega
  obtain ⟨d, hd⟩ : ∃ d, PTeam.decider view n = d := ⟨_, rfl⟩
  rw [hd] at h0
  have H := Lib.hid hd
  have z1 : (d == 0) = false := by simpa using h0
  clear hd
  go_enter Tryz.func120, Tryz.ntmps120
  go_wp2_with fail
  refine (tDecider_c w view n (by omega) h2).mono ?_
  rw [H.out]
  rintro e w' ⟨rfl, rfl⟩
  go_wp2_with fail
  go_ret
  exact ⟨rfl, Vs.new w view n _ rfl, (Below.refl _ _).alloc (Nat.le_refl _) _⟩

theorem vview_c (w : World) (g : Nat) (F : List Nat) (view n : Int) (S : List (Option Vt)) (h : Vs w g F view n S) :
    Calls Tryz.prog 90 #[.pointer (some ⟨g, 0, none⟩)] w fun e w' => e = .returned (.int .i64 view) ∧ w = w' := by
  obtain ⟨q0, q1, q2⟩ := h.head
  clear h
  go_enter Tryz.func90, Tryz.ntmps90
  go_wp2_with fail
  go_ret
  exact ⟨rfl, rfl⟩
theorem vteam_c (w : World) (g : Nat) (F : List Nat) (view n : Int) (S : List (Option Vt)) (h : Vs w g F view n S) :
    Calls Tryz.prog 159 #[.pointer (some ⟨g, 0, none⟩)] w fun e w' => e = .returned (.int .i64 (tm S)) ∧ w = w' := by
  obtain ⟨q0, q1, q2⟩ := h.head
  clear h
  generalize ((tm S : Nat) : Int) = t at *
  go_enter Tryz.func159, Tryz.ntmps159
  go_wp2_with fail
  go_ret
  exact ⟨rfl, rfl⟩
theorem venough_c (w : World) (g : Nat) (F : List Nat) (view n : Int) (S : List (Option Vt)) (h : Vs w g F view n S) :
    Calls Tryz.prog 106 #[.pointer (some ⟨g, 0, none⟩)] w fun e w' => e = .returned (.bool (PTeam.most (tm S) n)) ∧ Below w.heap.size w w' := by
  obtain ⟨q0, q1, q2⟩ := h.head
  have hm : ∀ q, Calls Tryz.prog 143 #[.int .i64 (tm S), .int .i64 n] (w.drewN q) fun e w' => e = .returned (.bool (PTeam.most (tm S) n)) ∧ w' = w.drewN q := fun q =>
    (tMost_c (w.drewN q) (tm S) n (by omega) (by have := tm_lt S; omega)).mono fun e w' h => ⟨h.1, h.2.symm⟩
  clear h
  generalize PTeam.most (tm S) n = b at *
  generalize ((tm S : Nat) : Int) = t at *
  go_enter Tryz.func106, Tryz.ntmps106
  go_wp2_with fail
  go_quiet (first | (go_at_call 143; refine Calls.quiet_of_same (hm _)))
  go_wp2_with fail
  go_ret
  exact ⟨rfl, ⟨rfl, rfl, rfl, Nat.le_refl _, fun _ _ => rfl⟩⟩

theorem isOpen_c (w : World) (g : Nat) (F : List Nat) (view n : Int) (S : List (Option Vt)) (h : Vs w g F view n S) (i : Int) :
    Calls Tryz.prog 145 #[.pointer (some ⟨g, 0, none⟩), .int .i64 i] w fun e w' => e = .returned (.bool (decide (1 ≤ i ∧ i ≤ n) && !PTeam.has (tm S) i)) ∧ w = w' := by
  obtain ⟨q0, q1, q2⟩ := h.head
  have hlt := tm_lt S
  clear h
  obtain ⟨s, hs⟩ : ∃ s, (decide (1 ≤ i ∧ i ≤ n) && !PTeam.has (tm S) i) = s := ⟨_, rfl⟩
  rw [hs]
  have H := Lib.hid hs
  clear hs
  by_cases h1 : 1 ≤ i
  · by_cases h2 : i ≤ n
    · go_enter Tryz.func145, Tryz.ntmps145
      go_wp2_with fail
      refine (tHas_c w (tm S) i hlt).mono ?_
      rintro e w' ⟨rfl, rfl⟩
      go_wp2_with fail
      go_ret
      exact ⟨by rw [← H.out]; simp [h1, h2], rfl⟩
    · go_enter Tryz.func145, Tryz.ntmps145
      go_wp2_with fail
      go_ret
      exact ⟨by rw [← H.out, decide_eq_false (by omega)]; rfl, rfl⟩
  · go_enter Tryz.func145, Tryz.ntmps145
    go_wp2_with fail
    go_ret
    exact ⟨by rw [← H.out, decide_eq_false (by omega)]; rfl, rfl⟩

/-- cmp.Compare. -/
def sgn (x y : Int) : Int := if x < y then -1 else if y < x then 1 else 0
theorem nan64_c (w : World) (x : Int) : Calls Tryz.prog 233 #[.int .i64 x] w fun e w' => e = .returned (.bool false) ∧ w = w' := by
  have h : (x != x) = false := by simp
  go_enter Tryz.func233, Tryz.ntmps233
  go_wp2_with fail
  go_ret
  exact ⟨rfl, rfl⟩
theorem nanI_c (w : World) (x : Int) : Calls Tryz.prog 234 #[.int .i64 x] w fun e w' => e = .returned (.bool false) ∧ w = w' := by
  have h : (x != x) = false := by simp
  go_enter Tryz.func234, Tryz.ntmps234
  go_wp2_with fail
  go_ret
  exact ⟨rfl, rfl⟩
theorem cmp64_c (w : World) (x y : Int) : Calls Tryz.prog 215 #[.int .i64 x, .int .i64 y] w fun e w' => e = .returned (.int .i64 (sgn x y)) ∧ w = w' := by
  obtain ⟨s, hs⟩ : ∃ s, sgn x y = s := ⟨_, rfl⟩
  rw [hs]
  rcases Int.lt_trichotomy x y with h | h | h
  all_goals
    unfold sgn at hs
    simp only [h, Int.lt_irrefl, if_true, if_false, show ∀ a b : Int, a < b → ¬ b < a from fun a b h => by omega] at hs
    subst hs
    try (have h' : ¬ x < y := by omega)
    go_enter Tryz.func215, Tryz.ntmps215
    go_wp2_with fail
    refine (nan64_c w _).mono ?_
    rintro e w' ⟨rfl, rfl⟩
    go_wp2_with fail
    refine (nan64_c w _).mono ?_
    rintro e w' ⟨rfl, rfl⟩
    go_wp2_with fail
    go_ret
    exact ⟨rfl, rfl⟩
theorem cmpI_c (w : World) (x y : Int) : Calls Tryz.prog 216 #[.int .i64 x, .int .i64 y] w fun e w' => e = .returned (.int .i64 (sgn x y)) ∧ w = w' := by
  obtain ⟨s, hs⟩ : ∃ s, sgn x y = s := ⟨_, rfl⟩
  rw [hs]
  rcases Int.lt_trichotomy x y with h | h | h
  all_goals
    unfold sgn at hs
    simp only [h, Int.lt_irrefl, if_true, if_false, show ∀ a b : Int, a < b → ¬ b < a from fun a b h => by omega] at hs
    subst hs
    try (have h' : ¬ x < y := by omega)
    go_enter Tryz.func216, Tryz.ntmps216
    go_wp2_with fail
    refine (nanI_c w _).mono ?_
    rintro e w' ⟨rfl, rfl⟩
    go_wp2_with fail
    refine (nanI_c w _).mono ?_
    rintro e w' ⟨rfl, rfl⟩
    go_wp2_with fail
    go_ret
    exact ⟨rfl, rfl⟩
/-- cmp.Or. -/
def orL : List Int → Int
  | [] => 0
  | x :: l => if x ≠ 0 then x else orL l
theorem orL_yes {l : List Int} {i : Nat} (hi : i < l.length) (h : l.getD i 0 ≠ 0) : orL (l.drop i) = l.getD i 0 := by
  rw [List.drop_eq_getElem_cons hi]
  have e : l.getD i 0 = l[i] := by rw [List.getD_eq_getElem?_getD, List.getElem?_eq_getElem hi]; rfl
  rw [e] at h ⊢
  exact if_pos h
theorem orL_no {l : List Int} {i : Nat} (hi : i < l.length) (h : l.getD i 0 = 0) : orL (l.drop i) = orL (l.drop (i + 1)) := by
  rw [List.drop_eq_getElem_cons hi]
  have e : l.getD i 0 = l[i] := by rw [List.getD_eq_getElem?_getD, List.getElem?_eq_getElem hi]; rfl
  rw [e] at h
  exact if_neg (by simpa using h)
set_option maxRecDepth 100000 in
theorem or_c (w : World) (B : Nat) (A : Option Addr) (c n : Nat) (l : List Int) (R : Rd w B A c 1 n (is l)) :
    Calls Tryz.prog 214 #[.slice A n c] w fun e w' => e = .returned (.int .i64 (orL l)) ∧ w = w' := by
  have hle := R.le
  have hcap := R.cap
  have hn : n ≤ 9223372036854775807 := by unfold maxLen at hcap; omega
  have hlen : l.length = n := by have := R.len; rw [is_length] at this; omega
  have HR := Lib.hid R
  have HL := Lib.hid hlen
  clear R hlen hle hcap
  go_enter Tryz.func214, Tryz.ntmps214
  go_wp2_with fail
  go_loopw [5, 8] (fun _ s8 wr => ∃ i : Nat, s8 = .int .i64 i ∧ i ≤ n ∧ Hid (orL l = orL (l.drop i)) ∧ wr = w) (fun _ s8 _ => n - (intOf s8).toNat)
  case atStart => exact ⟨0, rfl, by omega, Lib.hid rfl, rfl⟩
  case round =>
    obtain ⟨i, rfl, hi, HO, rfl⟩ := hrel
    by_cases hin : i < n
    · obtain ⟨b, o, rfl, -, k0⟩ := HR.out.at_ hin
      rw [is_getD l i (by rw [HL.out]; exact hin)] at k0
      obtain ⟨x, hx⟩ : ∃ x, l.getD i 0 = x := ⟨_, rfl⟩
      rw [hx] at k0
      have HX := Lib.hid hx
      clear hx
      by_cases h0 : x = 0
      · have HZ := Lib.hid (HO.out.trans (orL_no (by rw [HL.out]; exact hin) (HX.out.trans h0)))
        have n0 : (x != 0) = false := by rw [h0]; rfl
        clear h0 HO HX
        go_wp2_with fail
        go_roundw
        case rel => exact ⟨i + 1, by go_num, by omega, HZ, trivial⟩
        case measure => simp [intOf]; omega
      · have HZ := Lib.hid ((HO.out.trans (orL_yes (by rw [HL.out]; exact hin) (fun h => h0 (HX.out.symm.trans h)))).trans HX.out)
        have n0 : (x != 0) = true := by simpa using h0
        clear h0 HO HX
        go_wp2_with fail
        go_ret
        exact ⟨by rw [HZ.out]; rfl, rfl⟩
    · obtain rfl : i = n := by omega
      have e1 : l.drop i = [] := List.drop_of_length_le (by rw [HL.out]; omega)
      rw [e1] at HO
      go_wp2_with fail
      go_ret
      exact ⟨by rw [HO.out]; rfl, rfl⟩
end Go.Proofs.YtacipjdaiglnjaaGreatDoor

/- A region that draws its order, walked in one order, where it writes blocks of the list S alone: all else stays (Hb's twin, over 'Touch'). No program is named here. -/
namespace Go.Proofs.YtacipjdaiglnjaaGreatDoor
open Go.RowKit

/-- A store, told by what it leaves. -/
theorem wpList_skipTo {P : Program} {ops : Array Oper} {Q : Exit → Act → World → Prop} {rest : List Oper} {o : Oper} {a : Act} {w : World} (hg : o.guard = none) (hd : o.dst = none) (w' : World) (hrun : (execOp a.eval o).run P w = .ok .skip w')
    (h : wpList P ops Q rest a w') : wpList P ops Q (o :: rest) a w := by
  refine wpList_plain hg fun K hK => ?_
  unfold Oper.wp
  rw [hrun]
  have h' : wpList P ops Q rest (a.put o.dst undef) w' := by rw [hd]; exact h
  exact hK _ _ h'

section
variable {P : Program} {ops : Array Oper} {Q : Exit → Act → World → Prop} {S : List Nat}

/-- Whatever order is drawn from here on; of w's blocks those of S alone may turn. -/
def Hs (P : Program) (ops : Array Oper) (Q : Exit → Act → World → Prop) (S : List Nat) (n : Nat) (listed : Array Bool) (a : Act) (w : World) : Prop :=
  wpAnyH P .any ops (NoPanic Q) (Touch S w) n listed a w
theorem Hs.on {n : Nat} {listed : Array Bool} {a : Act} {w w' : World} (hb : Touch S w w') (h : Hs P ops Q S n listed a w') : wpAnyH P .any ops (NoPanic Q) (Touch S w) n listed a w' :=
  wpAnyH_less (fun _ h' => hb.trans h') _ _ _ _ h
theorem Hs.begin {id : Nat} {a : Act} {w : World} (S : List Nat) (h : Hs P ops Q S ops.size (Array.replicate ops.size false) a w.drew) (hm : P.follows .mixedOrders = true := by kernel_rfl) : (Code.region id ops true).wp P Q a w :=
  wp_region_noPanic (wp_region_held (S := Touch S w.drew) hm h)
/-- It may be taken first. -/
theorem Hs.take {n : Nat} {listed : Array Bool} {a a' : Act} {w : World} {o : Oper} {v : Value} (i d : Nat)
    (hi : ops[i]? = some o) (h : Hs P ops Q S n (listed.setIfInBounds i true) a' w) (hy : ∀ w', Touch S w w' → (execOp a.eval o).run P w' = .ok (.value v) w')
    (hf : firstB ops listed i = true := by kernel_rfl) (hw : Region.wanted o (yielded ops a.tmps) = true := by rfl) (hd : o.dst = some d := by rfl)
    (ha : a.put (some d) v = a' := by simp only [Act.put, List.setIfInBounds_toArray, List.set_cons_succ, List.set_cons_zero]; rfl) : Hs P ops Q S (n + 1) listed a w := by
  subst ha
  rw [← hd] at h
  obtain ⟨h1, h2, h3⟩ := firstB_parts hf
  exact wpAnyH_take hi h1 h2 h3 (fun _ _ _ h => h) (.inl ⟨hw, hy⟩) (Touch.refl _ _) h
/-- Its guard shuts it out. -/
theorem Hs.pass {n : Nat} {listed : Array Bool} {a a' : Act} {w : World} {o : Oper} (i d : Nat) (hi : ops[i]? = some o) (h : Hs P ops Q S n (listed.setIfInBounds i true) a' w)
    (hf : firstB ops listed i = true := by kernel_rfl) (hw : Region.wanted o (yielded ops a.tmps) = false := by rfl) (hd : o.dst = some d := by rfl)
    (ha : a.put (some d) undef = a' := by simp only [Act.put, List.setIfInBounds_toArray, List.set_cons_succ, List.set_cons_zero]; rfl) : Hs P ops Q S (n + 1) listed a w := by
  subst ha
  rw [← hd] at h
  obtain ⟨h1, h2, h3⟩ := firstB_parts hf
  exact wpAnyH_take hi h1 h2 h3 (fun _ _ _ h => h) (.inr ⟨hw, rfl⟩) (Touch.refl _ _) h
/-- What is asked where number i comes up. -/
def Ps (P : Program) (ops : Array Oper) (Q : Exit → Act → World → Prop) (S : List Nat) (n : Nat) (listed : Array Bool) (a : Act) (w : World) (i : Nat) : Prop :=
  wpOp P ops (NoPanic Q) i (fun a' w' => Touch S w w' ∧ wpAnyH P .any ops (NoPanic Q) (Touch S w) n (listed.setIfInBounds i true) a' w') a w
theorem Hs.one {n : Nat} {listed : Array Bool} {a : Act} {w : World} (i : Nat) (h1 : Ps P ops Q S n listed a w i) (hr : Region.ready .any ops listed = [i] := by kernel_rfl) : Hs P ops Q S (n + 1) listed a w := by
  refine wpAnyH_all hr (by simp) fun x hx => ?_
  obtain rfl : x = i := by simpa using hx
  exact h1
theorem Hs.two {n : Nat} {listed : Array Bool} {a : Act} {w : World} (i j : Nat) (h1 : Ps P ops Q S n listed a w i) (h2 : Ps P ops Q S n listed a w j) (hr : Region.ready .any ops listed = [i, j] := by kernel_rfl) : Hs P ops Q S (n + 1) listed a w := by
  refine wpAnyH_all hr (by simp) fun x hx => ?_
  simp only [List.mem_cons, List.not_mem_nil, or_false] at hx
  rcases hx with rfl | rfl
  · exact h1
  · exact h2
theorem Hs.pick {n : Nat} {listed : Array Bool} {a : Act} {w : World} {o : Oper} (i : Nat) (d : Option Nat) (hi : ops[i]? = some o)
    (h : wpList P ops (Nx Q fun a' w' => Touch S w w' ∧ Hs P ops Q S n (listed.setIfInBounds i true) a' w') [{ o with guard := none, dst := d }] a w)
    (hw : Region.wanted o (yielded ops a.tmps) = true := by rfl) (hd : o.dst = d := by rfl) : Ps P ops Q S n listed a w i := by
  subst hd
  unfold Ps wpOp
  simp only [hi, hw, if_true]
  have he : execOp a.eval { o with guard := none } = execOp a.eval o := rfl
  unfold wpList at h
  have hw' : Region.wanted { o with guard := none } (yielded ops a.tmps) = true := rfl
  rw [if_pos hw'] at h
  rcases h with h | ⟨h, q⟩
  · refine .inl ?_
    unfold Oper.wp at *
    rw [he] at h
    generalize (execOp a.eval o).run P w = r at *
    have step : ∀ a' w', wpList P ops (Nx Q fun a' w' => Touch S w w' ∧ Hs P ops Q S n (listed.setIfInBounds i true) a' w') [] a' w' → Touch S w w' ∧ wpAnyH P .any ops (NoPanic Q) (Touch S w) n (listed.setIfInBounds i true) a' w' := by
      rintro a' w' ⟨hb, hh⟩
      exact ⟨hb, hh.on hb⟩
    cases r with
    | ok n w' =>
      cases n <;> simp only [Oper.upon] at h ⊢ <;>
        first
          | exact step _ _ h
          | exact Calls.mono h (fun e w'' he => by
              cases e
              · exact step _ _ he
              · exact he
              · exact he)
          | exact Rows.mono h (fun _ _ he => step _ _ he)
    | halt x w' => cases x <;> simp only [Oper.upon] at h ⊢ <;> exact h
  · exact .inr ⟨h, q⟩
/-- It alone may come up. -/
theorem Hs.only {n : Nat} {listed : Array Bool} {a : Act} {w : World} {o : Oper} (i : Nat) (d : Option Nat) (hi : ops[i]? = some o)
    (h : wpList P ops (Nx Q fun a' w' => Touch S w w' ∧ Hs P ops Q S n (listed.setIfInBounds i true) a' w') [{ o with guard := none, dst := d }] a w)
    (hr : Region.ready .any ops listed = [i] := by kernel_rfl) (hw : Region.wanted o (yielded ops a.tmps) = true := by rfl) (hd : o.dst = d := by rfl) : Hs P ops Q S (n + 1) listed a w :=
  Hs.one i (Hs.pick i d hi h hw hd) hr
theorem Hs.pickCall {n : Nat} {listed : Array Bool} {a : Act} {w : World} {o : Oper} {f : FuncId} {args : Array Value} (i d : Nat) (hi : ops[i]? = some o)
    (h : Calls P f args w fun e w' => ∃ v a', e = .returned v ∧ a.put (some d) v = a' ∧ Touch S w w' ∧ Hs P ops Q S n (listed.setIfInBounds i true) a' w')
    (hrun : (execOp a.eval o).run P w = .ok (.enter f args) w)
    (hw : Region.wanted o (yielded ops a.tmps) = true := by rfl) (hd : o.dst = some d := by rfl) : Ps P ops Q S n listed a w i := by
  rw [← hd] at h
  unfold Ps wpOp
  simp only [hi, hw, if_true]
  refine .inl ?_
  unfold Oper.wp
  rw [hrun]
  refine h.mono fun e w' => ?_
  rintro ⟨v, a', rfl, rfl, hb, hh⟩
  exact ⟨hb, hh.on hb⟩
/-- A call of a Go function, it alone. -/
theorem Hs.call {n : Nat} {listed : Array Bool} {a : Act} {w : World} {o : Oper} {f : FuncId} {args : Array Value} (i d : Nat) (hi : ops[i]? = some o)
    (h : Calls P f args w fun e w' => ∃ v a', e = .returned v ∧ a.put (some d) v = a' ∧ Touch S w w' ∧ Hs P ops Q S n (listed.setIfInBounds i true) a' w')
    (hrun : (execOp a.eval o).run P w = .ok (.enter f args) w)
    (hr : Region.ready .any ops listed = [i] := by kernel_rfl) (hw : Region.wanted o (yielded ops a.tmps) = true := by rfl) (hd : o.dst = some d := by rfl) : Hs P ops Q S (n + 1) listed a w :=
  Hs.one i (Hs.pickCall i d hi h hrun hw hd) hr
/-- Behind a call. -/
theorem Hs.back {n d : Nat} {listed : Array Bool} {a a' : Act} {w w' : World} {v : Value} (hb : Touch S w w') (h : Hs P ops Q S n listed a' w')
    (ha : a.put (some d) v = a' := by simp only [Act.put, List.setIfInBounds_toArray, List.set_cons_succ, List.set_cons_zero]; rfl) :
    ∃ v' a', Ending.returned v = .returned v' ∧ a.put (some d) v' = a' ∧ Touch S w w' ∧ Hs P ops Q S n listed a' w' := ⟨v, a', rfl, ha, hb, h⟩
/-- Behind an operation that was alone, or was picked. -/
theorem Hs.next {n : Nat} {listed : Array Bool} {a a' : Act} {w w' : World} (hb : Touch S w w') (h : Hs P ops Q S n listed a' w')
    (ha : a = a' := by simp only [Act.put, List.setIfInBounds_toArray, List.set_cons_succ, List.set_cons_zero]; rfl) :
    wpList P ops (Nx Q fun a' w' => Touch S w w' ∧ Hs P ops Q S n listed a' w') [] a w' := by subst ha; exact ⟨hb, h⟩
theorem Hs.done {n : Nat} {listed : Array Bool} {a : Act} {w : World} (h : Q .normal a w) (hr : Region.ready .any ops listed = [] := by kernel_rfl) : Hs P ops Q S n listed a w :=
  wpAnyH_done hr (show NoPanic Q .normal a w from h) _
end
end Go.Proofs.YtacipjdaiglnjaaGreatDoor

