/- NodeForgot: what comes to one that started anew, and what it answers. -/
import Derived.Test.YtfolifhgmdglaaaGreatDoorSeg23
import Derived.Test.YtfolifhgmdglaaaGreatDoorSeg26
import Derived.Test.YtfolifhgmdglaaaGreatDoorSeg22
import Derived.Test.YtfolifhgmdglaaaGreatDoorSeg25
namespace Go.Proofs.YtfolifhgmdglaaaGreatDoor
open Go.RowKit PNode

theorem fg_mod {id n : Int} (h1 : 1 ≤ id) (h2 : id ≤ n) (h3 : 3 ≤ n) : (1 ≤ 1 + id % n ∧ 1 + id % n ≤ n) ∧ id ≠ 1 + id % n := by
  rcases Int.lt_or_eq_of_le h2 with h | rfl
  · have e : id % n = id := Int.emod_eq_of_lt (by omega) h
    rw [e]; omega
  · rw [Int.emod_self]; omega
theorem fg_low (x : Int) : 0 ≤ bits .and .i64 x 1 ∧ bits .and .i64 x 1 ≤ 1 := by
  have h1 : (BitVec.ofInt 64 (1 : Int)).toNat = 1 := by rw [BitVec.toNat_ofInt]; omega
  have h2 : (BitVec.ofInt 64 x &&& BitVec.ofInt 64 (1 : Int)).toNat ≤ 1 := by
    rw [BitVec.toNat_and, h1]; exact Nat.and_le_right
  have e : bits .and .i64 x 1 = IntKind.i64.wrap ((BitVec.ofInt 64 x &&& BitVec.ofInt 64 (1 : Int)).toNat : Nat) := rfl
  rw [e, IntKind.wrap_i64]
  omega
theorem fg_dec {v n : Int} (h1 : 1 ≤ v) (h3 : 3 ≤ n) (h7 : n ≤ 7) : 1 ≤ PTeam.decider v n ∧ PTeam.decider v n ≤ n := by
  have hd : PTeam.decider v n = 1 + (v - 1) % n := by unfold PTeam.decider; rw [if_neg (by omega)]
  have q1 := Int.emod_nonneg (v - 1) (show n ≠ 0 by omega)
  have q2 := Int.emod_lt_of_pos (v - 1) (show 0 < n by omega)
  omega
theorem fg_pow {n P : Int} {K : Nat} (hn : n = K) (g1 : 3 ≤ n) (g2 : n ≤ 7) (hP : (2 : Int) ^ n.toNat = P) : P - 1 = ((2 ^ K - 1 : Nat) : Int) ∧ 8 ≤ P ∧ P ≤ 128 := by
  subst hn
  rcases (by omega : K = 3 ∨ K = 4 ∨ K = 5 ∨ K = 6 ∨ K = 7) with rfl | rfl | rfl | rfl | rfl
  all_goals
    rw [← hP]
    decide
/-- What comes. -/
def fgM (kind o me view mem num : Int) (yes : Bool) : Msg := ⟨kind, o, me, 1, view, 0, mem, 0, [], 0, num, 0, yes⟩
theorem fg_may {kind o me view mem num : Int} {yes : Bool} (k : 1 ≤ kind ∧ kind ≤ 13) (i : 1 ≤ o ∧ o ≤ 7) (d : 1 ≤ me ∧ me ≤ 7) (ne : o ≠ me) (v : 0 ≤ view ∧ view ≤ 1099511627776) (m : 0 ≤ mem ∧ mem ≤ 127) (n : 0 ≤ num ∧ num ≤ 1099511627776) :
    PMsg.may (fgM kind o me view mem num yes) = true :=
  (PMsg.may_iff _).2 ⟨k, i, d, ne, by show (1 : Int) ≤ 1 ∧ (1 : Int) ≤ _; decide, v, by show (0 : Int) ≤ 0 ∧ (0 : Int) ≤ _; decide, m, by show (0 : Int) ≤ 0 ∧ (0 : Int) ≤ _; decide, by show (0 : Int) ≤ 0 ∧ (0 : Int) ≤ _; decide, n, by show (0 : Int) ≤ 0 ∧ (0 : Int) ≤ _; decide, by simp [fgM], rfl⟩
theorem fg_has {k : Nat} (h3 : 3 ≤ k) (h7 : k ≤ 7) {i : Int} (h1 : 1 ≤ i) (h2 : i ≤ k) : PTeam.has (2 ^ k - 1) i = true := by
  rcases (by omega : k = 3 ∨ k = 4 ∨ k = 5 ∨ k = 6 ∨ k = 7) with rfl | rfl | rfl | rfl | rfl
  all_goals
    rcases (by omega : i = 1 ∨ i = 2 ∨ i = 3 ∨ i = 4 ∨ i = 5 ∨ i = 6 ∨ i = 7) with rfl | rfl | rfl | rfl | rfl | rfl | rfl
    all_goals first | (exfalso; omega) | decide +kernel
theorem fg_word {n me pro view num : Int} {yes : Bool} {k : Nat} (hn : n = k) (h3 : 3 ≤ k) (h7 : k ≤ 7) (hv : 1 ≤ view) :
    PJoin.word me n 2 pro (fgM 11 (PTeam.decider view n) me view ((2 ^ k - 1 : Nat) : Int) num yes) = (yes && (num == 2 && decide (pro ≤ view))) := by
  subst hn
  have hd := fg_dec (v := view) (n := (k : Int)) hv (by omega) (by omega)
  have h1 : PTeam.most ((2 ^ k - 1 : Nat) : Int) k = true := by
    rcases (by omega : k = 3 ∨ k = 4 ∨ k = 5 ∨ k = 6 ∨ k = 7) with rfl | rfl | rfl | rfl | rfl <;> decide +kernel
  have h2 := fg_has h3 h7 hd.1 hd.2
  have h5 : PJoin.isAll (fgM 11 (PTeam.decider view k) me view ((2 ^ k - 1 : Nat) : Int) num yes) = true := by simp [PJoin.isAll, fgM, PLog.log]
  unfold PJoin.word
  rw [h5]
  simp only [PJoin.isAns, PJoin.isDec, fgM, Int.toNat_natCast, h1, h2, beq_self_eq_true, Bool.and_true, Bool.true_and]
  simp [show (0 : Int) < view by omega, Bool.and_assoc]
  rfl

/-- It knows nothing. -/
def nwP (me n promise : Int) : Np := newP me n 2 promise
theorem fg_err (me n promise kind o view mem num : Int) (yes : Bool) : PGram.herr (nwP me n promise).id (nwP me n promise).G (some (fgM kind o me view mem num yes)) = 0 := by
  show (if me ≠ me then (1 : Int) else if (1 : Int) < (PGram.at_ PGram.zeroL o).boot then 7 else 0) = 0
  rw [if_neg (by simp), zero_boot]
  rfl
/-- It hears nothing else. -/
theorem fg_deaf {w : World} {x d : Nat} {F : List Nat} {me n promise o view mem num kind : Int} {yes : Bool} (h : Nd w x d F (gotP (nwP me n promise) (fgM kind o me view mem num yes))) (A : Option Addr) (c : Nat) (h1 : 1 ≤ kind) (h2 : kind ≤ 13) (h3 : kind ≠ 11) (h4 : kind ≠ 12) :
    Calls Tryz.prog 47 #[.pointer (some ⟨x, 0, none⟩), mv (fgM kind o me view mem num yes) A c] w fun e w' => e = .returned (.bool false) ∧ Below w.heap.size w w' := by
  rcases (by omega : kind = 1 ∨ kind = 2 ∨ kind = 3 ∨ kind = 4 ∨ kind = 5 ∨ kind = 6 ∨ kind = 7 ∨ kind = 8 ∨ kind = 9 ∨ kind = 10 ∨ kind = 13) with rfl | rfl | rfl | rfl | rfl | rfl | rfl | rfl | rfl | rfl | rfl
  · exact hd_prop_f h _ A c rfl rfl
  · exact hd_votes_f2 h _ A c rfl rfl
  · exact hd_votes_f3 h _ A c rfl rfl
  · exact hd_inst_f h _ A c rfl rfl
  · exact hd_in_f5 h _ A c rfl rfl
  · exact hd_dec_f6 h _ A c rfl rfl
  · exact hd_dec_f7 h _ A c rfl rfl
  · exact hd_dec_f8 h _ A c rfl rfl
  · exact hd_in_f9 h _ A c rfl rfl
  · exact hd_dec_f10 h _ A c rfl rfl
  · exact hd_pong h _ A c rfl

section
variable {w0 w : World} {x d : Nat} {me n promise : Int} (h : Sn w0 w x d (nwP me n promise)) (ht : Tab w0) {k : Nat} {kind o view num : Int} {yes : Bool} (hn : n = k) (h3 : 3 ≤ k) (h7 : k ≤ 7) (hv : 1 ≤ view) (hv2 : view ≤ 60) (ho : PTeam.decider view n = o) (hm : PMsg.may (fgM kind o me view ((2 ^ k - 1 : Nat) : Int) num yes) = true)
include h ht hm
theorem fg_ping (h1 : kind = 12) :
    Calls Tryz.prog 26 #[.pointer (some ⟨x, 0, none⟩), mv (fgM kind o me view ((2 ^ k - 1 : Nat) : Int) num yes) none 0] w (SnPost w0 w x d (cOne (gotP (nwP me n promise) (fgM kind o me view ((2 ^ k - 1 : Nat) : Int) num yes)) o (pongM (gotP (nwP me n promise) (fgM kind o me view ((2 ^ k - 1 : Nat) : Int) num yes)) num) (gotP (nwP me n promise) (fgM kind o me view ((2 ^ k - 1 : Nat) : Int) num yes)))) := by
  subst h1
  exact hearL_of h _ none 0 (Rd.nil _ _ _) ht hm (fg_err ..) (fun Q p' hh => by obtain ⟨_, _, _, e⟩ := hh; rw [e]; exact ⟨rfl, rfl⟩) (fun w1 F1 A1 c1 h1 => hd_ping h1 _ A1 c1 rfl) (fun w1 F1 A1 c1 h1 r1 => heed_ping h1 (fgM 12 o me view ((2 ^ k - 1 : Nat) : Int) num yes) A1 c1 rfl)
include hn h3 h7 hv hv2 ho
theorem fg_no (h1 : 1 ≤ kind) (h2 : kind ≤ 13) (h4 : kind ≠ 12) (hw : kind = 11 → (yes && (num == 2 && decide (promise ≤ view))) = false) :
    Calls Tryz.prog 26 #[.pointer (some ⟨x, 0, none⟩), mv (fgM kind o me view ((2 ^ k - 1 : Nat) : Int) num yes) none 0] w (SnPost w0 w x d (cDone (gotP (nwP me n promise) (fgM kind o me view ((2 ^ k - 1 : Nat) : Int) num yes)))) := by
  have hmem : (0 : Int) ≤ ((2 ^ k - 1 : Nat) : Int) ∧ ((2 ^ k - 1 : Nat) : Int) ≤ 127 := by
    rcases (by omega : k = 3 ∨ k = 4 ∨ k = 5 ∨ k = 6 ∨ k = 7) with rfl | rfl | rfl | rfl | rfl <;> decide
  by_cases hk : kind = 11
  · subst hk
    have hw' := hw rfl
    rw [← fg_word (me := me) hn h3 h7 hv, ho] at hw'
    exact hearL_of h _ none 0 (Rd.nil _ _ _) ht hm (fg_err ..) (C := cDone (gotP (nwP me n promise) (fgM 11 o me view ((2 ^ k - 1 : Nat) : Int) num yes))) (fun Q p' hh => by rw [hh.2]; exact ⟨rfl, rfl⟩)
      (fun w1 F1 A1 c1 h1 => (hd_state h1 (fgM 11 o me view ((2 ^ k - 1 : Nat) : Int) num yes) A1 c1 rfl))
      (fun w1 F1 A1 c1 h1 r1 => heed_state h1 (fgM 11 o me view ((2 ^ k - 1 : Nat) : Int) num yes) A1 c1 rfl (fun w2 b2 => state_no (h1.past b2) _ A1 c1 (jp := promise) rfl (r1.past b2).tight (by show 0 ≤ view ∧ view ≤ _; omega) hmem hw'))
  · exact hearL_not h _ none 0 (Rd.nil _ _ _) ht hm (fg_err ..) (fun w1 F1 A1 c1 h9 => fg_deaf h9 A1 c1 h1 h2 hk h4)
theorem fg_yes (h1 : kind = 11) (hw : (yes && (num == 2 && decide (promise ≤ view))) = true) (hme : 1 ≤ me ∧ me ≤ n) :
    Calls Tryz.prog 26 #[.pointer (some ⟨x, 0, none⟩), mv (fgM kind o me view ((2 ^ k - 1 : Nat) : Int) num yes) none 0] w (SnPost w0 w x d (cOne (wrdP (gotP (nwP me n promise) (fgM kind o me view ((2 ^ k - 1 : Nat) : Int) num yes)) view (2 ^ k - 1)) o (ackM (wrdP (gotP (nwP me n promise) (fgM kind o me view ((2 ^ k - 1 : Nat) : Int) num yes)) view (2 ^ k - 1)) 0) (wrdP (gotP (nwP me n promise) (fgM kind o me view ((2 ^ k - 1 : Nat) : Int) num yes)) view (2 ^ k - 1)))) := by
  subst h1
  have hmem : 2 ^ k - 1 < 128 := by
    rcases (by omega : k = 3 ∨ k = 4 ∨ k = 5 ∨ k = 6 ∨ k = 7) with rfl | rfl | rfl | rfl | rfl <;> decide
  have hs : PTeam.has (2 ^ k - 1) me = true := fg_has h3 h7 hme.1 (by omega)
  rw [← fg_word (me := me) hn h3 h7 hv, ho] at hw
  exact hearL_of h _ none 0 (Rd.nil _ _ _) ht hm (fg_err ..) (fun Q p' hh => by obtain ⟨_, _, _, e⟩ := hh; rw [e]; exact ⟨rfl, rfl⟩)
    (fun w1 F1 A1 c1 h1 => (hd_state h1 (fgM 11 o me view ((2 ^ k - 1 : Nat) : Int) num yes) A1 c1 rfl))
    (fun w1 F1 A1 c1 h1 r1 => heed_state h1 (fgM 11 o me view ((2 ^ k - 1 : Nat) : Int) num yes) A1 c1 rfl (fun w2 b2 => state_yes (h1.past b2) (fgM 11 o me view ((2 ^ k - 1 : Nat) : Int) num yes) A1 c1 (jp := promise) rfl (2 ^ k - 1) rfl hmem rfl (r1.past b2).tight (by show 0 ≤ view ∧ view ≤ _; omega) hw hs))
end
end Go.Proofs.YtfolifhgmdglaaaGreatDoor

