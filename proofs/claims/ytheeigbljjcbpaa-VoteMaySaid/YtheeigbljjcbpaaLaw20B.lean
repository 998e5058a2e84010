/- The walk of VoteMay: what it screens out. -/
import Derived.Test.YtheeigbljjcbpaaVoteK
import Derived.Test.YtheeigbljjcbpaaVoteL
import Derived.Deep.CutRange
import Derived.Deep.MidRow
namespace Go.Proofs.Ytheeigbljjcbpaa
open Go.RowKit PVote

theorem bits_and1 (x : Int) : bits .and .i64 x 1 = x % 2 := by
  have e : bits .and .i64 x 1 = IntKind.i64.wrap ((BitVec.ofInt 64 x &&& BitVec.ofInt 64 1).toNat : Int) := rfl
  have hx : (BitVec.ofInt 64 x).toNat = (x % 18446744073709551616).toNat := by rw [BitVec.toNat_ofInt]; rfl
  have h3 : (BitVec.ofInt 64 1).toNat = 1 := rfl
  rw [e, BitVec.toNat_and, hx, h3, Nat.and_one_is_mod, IntKind.wrap_i64]
  omega

/-- Behind the screen: what the law says of any good numbers. -/
theorem may_team {view n : Int} {v : Vt} (hn : n ≤ 7) : PTeam.has (tm (add view n none7 v)) v.fr = ok view n none7 v := by
  unfold add
  cases hk : ok view n none7 v
  · by_cases h : 1 ≤ v.fr ∧ v.fr ≤ 7
    · rw [show v.fr = (((v.fr - 1).toNat : Nat) : Int) + 1 by omega, tm_has _ (by omega)]
      have : none7.getD (v.fr - 1).toNat none = none := by
        rw [List.getD_eq_getElem?_getD]
        unfold none7
        rw [List.getElem?_replicate]
        split <;> rfl
      rw [if_neg (by decide), this]; rfl
    · exact PTeam.has_out _ (by omega)
  · have h := good_from (ok_good hk)
    rw [if_pos rfl, tm_put _ rfl v h.1 (by omega), PTeam.has_wth _ (tm_lt _) _ _ h.1 (by omega)]
    simp
theorem may_again {view n : Int} {v : Vt} (hn : n ≤ 7) : ok view n (add view n none7 v) v = false := by
  cases hk : ok view n none7 v
  · have : add view n none7 v = none7 := by unfold add; rw [hk]; rfl
    rw [this]; exact hk
  · have := may_team (view := view) (v := v) hn
    unfold ok
    rw [this, hk]
    simp
theorem may_ok {view n : Int} {v : Vt} (hl : isLog v.es = true) : ok view n none7 v = (decide (1 ≤ v.fr ∧ v.fr ≤ n) && decide (0 ≤ v.last ∧ v.last < view) && decide (0 ≤ v.com ∧ v.com ≤ v.es.length)) := by
  unfold ok good
  rw [hl]
  by_cases h : 1 ≤ v.fr ∧ v.fr ≤ n
  · have : PTeam.has (tm none7) v.fr = false := by rw [tm_none]; unfold PTeam.has; simp
    rw [this]; simp
  · rw [decide_eq_false h]; simp
theorem add_no {view n : Int} {S : List (Option Vt)} {v : Vt} (h : ok view n S v = false) : add view n S v = S := by unfold add; rw [h]; rfl
theorem may_log {view n : Int} {S : List (Option Vt)} {v : Vt} (hl : isLog v.es = false) : ok view n S v = false := by
  unfold ok good; rw [hl]; simp

set_option maxHeartbeats 8000000 in
set_option maxRecDepth 100000 in
theorem VoteMay_bad (w : World) (view last fr n hv com : Int) (h : view < 1 ∨ 1099511627776 < view ∨ n < 3 ∨ 7 < n ∨ hv < 0 ∨ 20 < hv) :
    Calls Try.prog 8 #[.int .i64 view, .int .i64 last, .int .i64 fr, .int .i64 n, .int .i64 hv, .int .i64 com] w fun e w' => e = .returned (.bool true) ∧ Below w.heap.size w w' := by
  have HBG := Lib.hid (begunV_c w)
  have h' : view < 1 ∨ (1 ≤ view ∧ (1099511627776 < view ∨ (view ≤ 1099511627776 ∧ (n < 3 ∨ (3 ≤ n ∧ (7 < n ∨ (n ≤ 7 ∧ (hv < 0 ∨ (0 ≤ hv ∧ 20 < hv))))))))) := by omega
  clear h
  rcases h' with c | ⟨c1, c | ⟨c2, c | ⟨c3, c | ⟨c4, c | ⟨c5, c⟩⟩⟩⟩⟩
  all_goals
    go_enter Try.func8, Try.ntmps8
    go_wp2_with fail
    refine HBG.out.mono ?_
    rintro e w1 ⟨rfl, b1⟩
    go_wp2_with fail
    go_ret
    exact ⟨rfl, b1⟩
end Go.Proofs.Ytheeigbljjcbpaa
