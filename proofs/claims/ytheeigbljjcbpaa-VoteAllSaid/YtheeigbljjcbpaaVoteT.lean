/- Contract of the document's Add of votes; the document's votes beside the program's. -/
import Derived.Test.YtheeigbljjcbpaaVoteS0
import Derived.Test.YtheeigbljjcbpaaVoteS3
import Derived.Test.YtheeigbljjcbpaaVoteS6
import Derived.Test.YtheeigbljjcbpaaVoteS8
import Derived.Test.YtheeigbljjcbpaaVoteU
namespace Go.Proofs.Ytheeigbljjcbpaa
open Go.RowKit PVote


/-- Whatever vote. -/
theorem rvadd_c (w : World) (g : Nat) (F : List Nat) (view n : Int) (L : List Vt) (S : List (Option Vt)) (h : Rs w g F view n L) (hM : Mt L S) (hS : tsum L = tm S) (v : Vt) (VA : Option Addr) (VC : Nat) (hE : Ow w 0 52 7 VA v.es.length VC (els v.es)) :
    Calls Try.prog 13 #[.pointer (some ⟨g, 0, none⟩), vv v VA VC] w fun e w' => e = .returned (.bool (ok view n S v)) ∧ RsW w w' g F view n (if ok view n S v = true then L ++ [v] else L) := by
  obtain ⟨fr, last, es, com⟩ := v
  have no : ok view n S ⟨fr, last, es, com⟩ = false → ∀ (e : Ending) (w' : World), e = .returned (.bool false) ∧ Below w.heap.size w w' → e = .returned (.bool (ok view n S ⟨fr, last, es, com⟩)) ∧ RsW w w' g F view n (if ok view n S ⟨fr, last, es, com⟩ = true then L ++ [⟨fr, last, es, com⟩] else L) := by
    intro hk e w' hp
    rw [hk, if_neg (by decide)]
    exact ⟨hp.1, RsW.same h hp.2⟩
  have h1 := hM.ones
  have hl := hM.le
  have lt := tm_lt S
  have e0 : ok view n S ⟨fr, last, es, com⟩ = (decide (1 ≤ fr ∧ fr ≤ n) && decide (0 ≤ last ∧ last < view) && isLog es && decide (0 ≤ com ∧ com ≤ es.length) && !PTeam.has (tm S) fr) := rfl
  by_cases c0 : fr < 1
  · exact (rvadd_0 w g F view n L h h1 hl (tm S) _ hS lt fr last com es rfl VA VC hE c0).mono (no (by rw [e0, decide_eq_false (show ¬ (1 ≤ fr ∧ fr ≤ n) by omega)]; rfl))
  by_cases c1 : n < fr
  · exact (rvadd_1 w g F view n L h h1 hl (tm S) _ hS lt fr last com es rfl VA VC hE (by omega) c1).mono (no (by rw [e0, decide_eq_false (show ¬ (1 ≤ fr ∧ fr ≤ n) by omega)]; rfl))
  cases hh : PTeam.has (tm S) fr with
  | true => exact (rvadd_2 w g F view n L h h1 hl (tm S) _ hS lt fr last com es rfl VA VC hE (by omega) (by omega) hh).mono (no (by rw [e0, hh]; simp))
  | false =>
    by_cases c3 : last < 0
    · exact (rvadd_3 w g F view n L h h1 hl (tm S) _ hS lt fr last com es rfl VA VC hE (by omega) (by omega) hh c3).mono (no (by rw [e0, decide_eq_false (show ¬ (0 ≤ last ∧ last < view) by omega)]; simp))
    by_cases c4 : view ≤ last
    · exact (rvadd_4 w g F view n L h h1 hl (tm S) _ hS lt fr last com es rfl VA VC hE (by omega) (by omega) hh (by omega) c4).mono (no (by rw [e0, decide_eq_false (show ¬ (0 ≤ last ∧ last < view) by omega)]; simp))
    by_cases c5 : (PLog.log es).length = es.length
    · by_cases c6 : com < 0
      · exact (rvadd_6 w g F view n L h h1 hl (tm S) _ hS lt fr last com es rfl VA VC hE (by omega) (by omega) hh (by omega) (by omega) c5 c6).mono (no (by rw [e0, decide_eq_false (show ¬ (0 ≤ com ∧ com ≤ (es.length : Int)) by omega)]; simp))
      by_cases c7 : (es.length : Int) < com
      · exact (rvadd_7 w g F view n L h h1 hl (tm S) _ hS lt fr last com es rfl VA VC hE (by omega) (by omega) hh (by omega) (by omega) c5 (by omega) c7).mono (no (by rw [e0, decide_eq_false (show ¬ (0 ≤ com ∧ com ≤ (es.length : Int)) by omega)]; simp))
      have hk : ok view n S ⟨fr, last, es, com⟩ = true := by
        rw [e0, decide_eq_true (show (1 ≤ fr ∧ fr ≤ n) by omega), decide_eq_true (show (0 ≤ last ∧ last < view) by omega), decide_eq_true (show (0 ≤ com ∧ com ≤ (es.length : Int)) by omega), hh]
        unfold isLog; rw [decide_eq_true c5]; rfl
      rw [hk, if_pos rfl]
      exact rvadd_8 w g F view n L h h1 hl (tm S) _ hS lt fr last com es rfl VA VC hE (by omega) (by omega) hh (by omega) (by omega) c5 (by omega) (by omega)
    · exact (rvadd_5 w g F view n L h h1 hl (tm S) _ hS lt fr last com es rfl VA VC hE (by omega) (by omega) hh (by omega) (by omega) c5).mono (no (by rw [e0]; unfold isLog; rw [decide_eq_false c5]; simp))

theorem most_zero (n : Int) : PTeam.most (0 : Int) n = false := by
  cases h : PTeam.most (0 : Int) n
  · rfl
  · unfold PTeam.most PTeam.may at h
    simp only [Bool.and_eq_true, decide_eq_true_eq] at h
    have h1 := h.1.1.1
    have h2 := h.2
    have : PTeam.cnt (0 : Int).toNat = 0 := by decide
    omega
theorem best_same {L : List Vt} {S : List (Option Vt)} (hM : Mt L S) (hS : tsum L = tm S) (n : Int) : bestD n L = best n S := by unfold bestD best; rw [hS, hM.run]
theorem rvbest_c (w : World) (g : Nat) (F : List Nat) (view n : Int) (L : List Vt) (S : List (Option Vt)) (h : Rs w g F view n L) (hM : Mt L S) (hS : tsum L = tm S) :
    Calls Try.prog 15 #[.pointer (some ⟨g, 0, none⟩)] w fun e w' => ∃ A c, e = .returned (.tuple #[vv (best n S) A c, .bool (PTeam.most (tm S) n)]) ∧ Rd w' w'.heap.size A c 7 (best n S).es.length (els (best n S).es) ∧ Below w.heap.size w w' := by
  have go : ∀ (e : Ending) (w' : World), RBestPost w n L e w' → ∃ A c, e = .returned (.tuple #[vv (best n S) A c, .bool (PTeam.most (tm S) n)]) ∧ Rd w' w'.heap.size A c 7 (best n S).es.length (els (best n S).es) ∧ Below w.heap.size w w' := by
    rintro e w' ⟨A, c, h1, h2, h3⟩
    rw [best_same hM hS] at h1 h2
    rw [hS] at h1
    exact ⟨A, c, h1, h2, h3⟩
  cases hm : PTeam.most (tm S) n
  · exact (rvbest_no w g F view n L h hM.ones hM.le (tm S) hS hm).mono (by rw [← hm]; exact go)
  · cases L with
    | nil =>
      have h0 : tm S = 0 := by rw [← hS]; rfl
      rw [h0] at hm
      rw [show ((0 : Nat) : Int) = 0 from rfl, most_zero] at hm
      cases hm
    | cons a r => exact (rvbest_yes w g F view n _ h hM.ones hM.le (tm S) hS hm a r rfl).mono (by rw [← hm]; exact go)
theorem mt_step {L : List Vt} {S : List (Option Vt)} (hM : Mt L S) (hS : tsum L = tm S) {view n : Int} (hn : n ≤ 7) (v : Vt) : Mt (if ok view n S v = true then L ++ [v] else L) (add view n S v) ∧ tsum (if ok view n S v = true then L ++ [v] else L) = tm (add view n S v) := by
  cases hk : ok view n S v
  · have : add view n S v = S := by unfold add; rw [hk]; rfl
    rw [if_neg (by decide), this]
    exact ⟨hM, hS⟩
  · rw [if_pos rfl]
    exact ⟨hM.add hk hn, tsum_add hM.len hS hk hn⟩
theorem vs_rs_apart {w : World} {g g2 : Nat} {F F2 : List Nat} {view n view2 n2 : Int} {S : List (Option Vt)} {L : List Vt} (h : Vs w g F view n S) (h2 : Rs w g2 F2 view2 n2 L) : ∀ k ∈ F2, k ∉ F := fun k hk hm => by
  obtain ⟨t, ys, hB, ht⟩ := h2.kinds k hk
  rcases h.kinds k hm with rfl | ⟨zs, hZ⟩
  · obtain ⟨us, hU⟩ := h.blk
    rcases ht with rfl | rfl
    · exact hB.ne hU (by decide) rfl
    · exact hB.ne hU (by decide) rfl
  · rcases ht with rfl | rfl
    · exact hB.ne hZ (by decide) rfl
    · exact hB.ne hZ (by decide) rfl
theorem Rs.votes {w w' : World} {g g2 : Nat} {F F2 : List Nat} {view n view2 n2 : Int} {S : List (Option Vt)} {L : List Vt} (h2 : Rs w g2 F2 view2 n2 L) (h : Vs w g F view n S) (ht : Touch [g] w w') : Rs w' g2 F2 view2 n2 L :=
  h2.touch ht (fun s hs => by
    obtain ⟨us, hU⟩ := h.blk
    rw [List.mem_singleton.1 hs]
    exact ⟨_, us, hU, by decide, by decide, by decide⟩)
/-- The document's votes, just made. -/
theorem Rs.new (w : World) (view n : Int) (us : Array Value) (hu : us.toList = [.int .i64 view, .int .i64 n, .slice none 0 0]) : Rs (w.alloc (.cells us 29)) w.heap.size [w.heap.size] view n [] := by
  refine ⟨none, 0, [], rfl, ?_, Ow.nil _ _ _ _, by simp, rfl⟩
  have := Blk.new w us 29
  rw [hu] at this
  exact this
/-- A vote of the document's is built in a region that draws. -/
theorem run_buildRV {w : World} {dst : Option Tmp} {x0 x1 x2 x3 : Operand} {ty : TypeId} {pos : String} {after : Array Edge} {guard : Option (Nat × Bool)} {ρ : Operand → Value} {fr last com : Int} {A : Option Addr} {n c : Nat}
    (h0 : ρ x0 = .int .i64 fr) (h1 : ρ x1 = .int .i64 last) (h2 : ρ x2 = .slice A n c) (h3 : ρ x3 = .int .i64 com) :
    (execOp ρ { dst, op := .build 36 #[(0, x0), (1, x1), (2, x2), (3, x3)], type := ty, pos, after, guard }).run Try.prog w = .ok (.value (.agg #[.int .i64 fr, .int .i64 last, .slice A n c, .int .i64 com])) w := by
  go_simp
end Go.Proofs.Ytheeigbljjcbpaa
