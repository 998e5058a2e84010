/- JoinFirst: words, the inputs that are none. -/
import Derived.Test.YtnpobagipgephaaJoinK
import Derived.Test.YtnpobagipgephaaTeamG
import Derived.Test.YtnpobagipgephaaInt
namespace Go.Proofs.Ytnpobagipgephaa
open Go.RowKit PJoin

theorem and_lowJ (x : Int) (m : Nat) (hm : m < 4611686018427387904) : 0 ≤ bits .and .i64 x (m : Int) ∧ bits .and .i64 x (m : Int) ≤ m := by
  have h1 : (BitVec.ofInt 64 (m : Int)).toNat = m := by rw [BitVec.toNat_ofInt]; omega
  have h2 : (BitVec.ofInt 64 x &&& BitVec.ofInt 64 (m : Int)).toNat ≤ m := by
    rw [BitVec.toNat_and, h1]; exact Nat.and_le_right
  have e : bits .and .i64 x (m : Int) = IntKind.i64.wrap ((BitVec.ofInt 64 x &&& BitVec.ofInt 64 (m : Int)).toNat : Nat) := rfl
  rw [e, IntKind.wrap_i64]
  omega

/-- The word of view v, of all members, from p. -/
def fM (n boot p v mem : Int) : Msg := ⟨11, p, n, 1, v, 0, mem, 0, [], 0, boot, 0, true⟩
theorem fM_word {n boot pro v : Int} {k : Nat} (hn : n = k) (h3 : 3 ≤ k) (h7 : k ≤ 7) (hv : 1 ≤ v) : word n n boot pro (fM n boot (PTeam.decider v n) v ((2 ^ k - 1 : Nat) : Int)) = decide (pro ≤ v) := by
  subst hn
  have hd : PTeam.decider v k = 1 + (v - 1) % (k : Int) := by unfold PTeam.decider; rw [if_neg (by omega)]
  have q1 := Int.emod_nonneg (v - 1) (show (k : Int) ≠ 0 by omega)
  have q2 := Int.emod_lt_of_pos (v - 1) (show 0 < (k : Int) by omega)
  have h1 : PTeam.most ((2 ^ k - 1 : Nat) : Int) k = true := by
    rcases (by omega : k = 3 ∨ k = 4 ∨ k = 5 ∨ k = 6 ∨ k = 7) with rfl | rfl | rfl | rfl | rfl <;> decide +kernel
  have h2 : PTeam.has (2 ^ k - 1) (PTeam.decider v k) = true := by
    rw [hd]
    generalize (v - 1) % (k : Int) = r at *
    rcases (by omega : k = 3 ∨ k = 4 ∨ k = 5 ∨ k = 6 ∨ k = 7) with rfl | rfl | rfl | rfl | rfl
    all_goals
      rcases (by omega : r = 0 ∨ r = 1 ∨ r = 2 ∨ r = 3 ∨ r = 4 ∨ r = 5 ∨ r = 6) with rfl | rfl | rfl | rfl | rfl | rfl | rfl
      all_goals first | (exfalso; omega) | decide +kernel
  have h5 : isAll (fM k boot (PTeam.decider v k) v ((2 ^ k - 1 : Nat) : Int)) = true := by simp [isAll, fM, PLog.log]
  unfold word
  rw [h5]
  simp only [isAns, isDec, fM, Int.toNat_natCast, h1, h2, beq_self_eq_true, Bool.and_true, Bool.true_and]
  simp [show (0 : Int) < v by omega]
  exact decide_eq_decide.mpr Iff.rfl
set_option maxHeartbeats 8000000 in
set_option maxRecDepth 100000 in
theorem JoinFirst_bad (w : World) (n boot pro : Int) (A : Option Addr) (c l : Nat) (h : ¬ (3 ≤ n ∧ n ≤ 7 ∧ 1 ≤ boot ∧ boot ≤ 1000 ∧ 0 ≤ pro ∧ pro ≤ 1000)) : Calls Try.prog 5 #[.int .i64 n, .int .i64 boot, .int .i64 pro, .slice A l c] w fun e w' => e = .returned (.bool true) ∧ Below w.heap.size w w' := by
  rcases (by omega : n < 3 ∨ (3 ≤ n ∧ 7 < n) ∨ (3 ≤ n ∧ n ≤ 7 ∧ boot < 1) ∨ (3 ≤ n ∧ n ≤ 7 ∧ 1 ≤ boot ∧ 1000 < boot) ∨ (3 ≤ n ∧ n ≤ 7 ∧ 1 ≤ boot ∧ boot ≤ 1000 ∧ pro < 0) ∨ (3 ≤ n ∧ n ≤ 7 ∧ 1 ≤ boot ∧ boot ≤ 1000 ∧ 0 ≤ pro ∧ 1000 < pro)) with k0 | ⟨k0, k1⟩ | ⟨k0, k1, k2⟩ | ⟨k0, k1, k2, k3⟩ | ⟨k0, k1, k2, k3, k4⟩ | ⟨k0, k1, k2, k3, k4, k5⟩
  all_goals
    clear h
    go_enter Try.func5, Try.ntmps5
    go_wp2_with fail
    refine (begunJ_c w).mono ?_
    rintro e w1 ⟨rfl, bb⟩
    go_wp2_with fail
    go_ret
    exact ⟨rfl, bb⟩
end Go.Proofs.Ytnpobagipgephaa
