/- A law's quorum; contract of begun (layer 21). -/
import Derived.Test.YtdgpjolohghboaaQuoB
import Derived.Test.YtdgpjolohghboaaTeamF
import Derived.Test.YtdgpjolohghboaaTeamR
namespace Go.Proofs.Ytdgpjolohghboaa
open Go.RowKit PQuo

/-- What Ack leaves. -/
def okA (m : Nat) (id x : Int) : Bool := PTeam.has m id && decide (0 ≤ x ∧ x ≤ 60)
def aH (m : Nat) (H : List Int) (id x : Int) : List Int := if okA m id x then upd H id x else H
def aP (m : Nat) (P : List Int) (last id x p : Int) : List Int := if okA m id x then (if p ≤ last then upd P id p else P) else P
theorem okA_parts {m : Nat} {id x : Int} (h : okA m id x = true) : PTeam.has m id = true ∧ 0 ≤ x ∧ x ≤ 60 := by
  unfold okA at h
  rw [Bool.and_eq_true, decide_eq_true_eq] at h
  exact ⟨h.1, h.2.1, h.2.2⟩
theorem Qk.ack {n me : Int} {m : Nat} {H P : List Int} {last : Int} (h : Qk n me m H P last) (id x p : Int) : Qk n me m (aH m H id x) (aP m P last id x p) last := by
  have hm := h.n.2.2
  unfold aH aP
  cases ho : okA m id x
  · exact h
  · obtain ⟨h1, h2, h3⟩ := okA_parts ho
    simp only [if_true]
    refine ⟨h.most, h.me, ok_upd hm h.h h1 h3, ?_, h.l0, h.l1⟩
    by_cases hp : p ≤ last
    · rw [if_pos hp]; exact ok_upd hm h.p h1 hp
    · rw [if_neg hp]; exact h.p
theorem Qk.next {n me : Int} {m : Nat} {H P : List Int} {last : Int} (h : Qk n me m H P last) (hb : last < 100) : Qk n me m H (P.set (pl me) (last + 1)) (last + 1) := by
  have := h.l0
  exact ⟨h.most, h.me, h.h, ok_set h.n.2.2 h.p h.me (by omega) (Int.le_refl _) (by omega), by omega, by omega⟩
theorem aH_le {n me : Int} {m : Nat} {H P : List Int} {last : Int} (h : Qk n me m H P last) (id x : Int) (k : Nat) : H.getD k 0 ≤ (aH m H id x).getD k 0 := by
  unfold aH
  cases ho : okA m id x
  · exact Int.le_refl _
  · obtain ⟨h1, h2, h3⟩ := okA_parts ho
    exact upd_le h.h.len (pl_in h.n.2.2 h1).2.2.1 k
theorem aP_le {n me : Int} {m : Nat} {H P : List Int} {last : Int} (h : Qk n me m H P last) (id x p : Int) (k : Nat) : P.getD k 0 ≤ (aP m P last id x p).getD k 0 := by
  unfold aP
  cases ho : okA m id x
  · exact Int.le_refl _
  · obtain ⟨h1, h2, h3⟩ := okA_parts ho
    simp only [if_true]
    by_cases hp : p ≤ last
    · rw [if_pos hp]; exact upd_le h.p.len (pl_in h.n.2.2 h1).2.2.1 k
    · rw [if_neg hp]; exact Int.le_refl _
theorem nP_le {n me : Int} {m : Nat} {H P : List Int} {last : Int} (h : Qk n me m H P last) {k : Nat} (hk : k < 7) : P.getD k 0 ≤ (P.set (pl me) (last + 1)).getD k 0 := by
  have := (pl_in h.n.2.2 h.me).2.2.1
  have := h.p.len
  rw [getD_set _ _ _ _ (by omega)]
  have := h.p.hi k hk
  split <;> omega

/-- A quorum of the law's own. -/
structure Sq (w0 w : World) (g : Nat) (n me : Int) (m : Nat) (H P : List Int) (last : Int) : Prop where
  bel : Below w0.heap.size w0 w
  low : w0.heap.size ≤ g
  q : Qs w g n me m H P last
  k : Qk n me m H P last
section
variable {w0 w w' : World} {g : Nat} {n me : Int} {m : Nat} {H P : List Int} {last : Int} {T : List Nat}
theorem Sq.past (h : Sq w0 w g n me m H P last) (t : Below w.heap.size w w') : Sq w0 w' g n me m H P last := ⟨h.bel.trans (t.mono h.bel.size), h.low, h.q.past t, h.k⟩
theorem Sq.drew (h : Sq w0 w g n me m H P last) : Sq w0 w.drew g n me m H P last := h.past (Below.refl _ _).drew
theorem Sq.alloc (h : Sq w0 w g n me m H P last) (o : Obj) : Sq w0 (w.alloc o) g n me m H P last := h.past ((Below.refl _ _).alloc (Nat.le_refl _) _)
theorem Sq.far (h : Sq w0 w g n me m H P last) (t : Touch T w w') (h1 : ∀ k ∈ T, w0.heap.size ≤ k) (h2 : g ∉ T) : Sq w0 w' g n me m H P last :=
  ⟨h.bel.trans (t.below h1 h.bel.size), h.low, h.q.touch t h2, h.k⟩
theorem Sq.go (h : Sq w0 w g n me m H P last) {H' P' : List Int} {last' : Int} (h1 : Qs w' g n me m H' P' last') (hk : Qk n me m H' P' last') (t : Touch [g] w w') : Sq w0 w' g n me m H' P' last' :=
  ⟨h.bel.trans (t.below (by simpa using h.low) h.bel.size), h.low, h1, hk⟩
theorem Sq.ack (h : Sq w0 w g n me m H P last) (id x p : Int) :
    Calls Try.prog 13 #[.pointer (some ⟨g, 0, none⟩), .int .i64 id, .int .i64 x, .int .i64 p] w fun e w' => e = .returned (.bool (okA m id x)) ∧ Sq w0 w' g n me m (aH m H id x) (aP m P last id x p) last ∧ Touch [g] w w' := by
  have hk := h.k.ack id x p
  unfold aH aP at hk ⊢
  cases ho : okA m id x
  · rw [ho] at hk
    refine (qack_no w g n me m H P last h.q h.k id x p ho).mono ?_
    rintro e w' ⟨rfl, rfl⟩
    exact ⟨rfl, h, Touch.refl _ _⟩
  · rw [ho] at hk
    obtain ⟨h1, h2, h3⟩ := okA_parts ho
    refine (qack_yes w g n me m H P last h.q h.k id x p h1 h2 h3).mono ?_
    rintro e w' ⟨rfl, q, t⟩
    exact ⟨rfl, h.go q hk t, t⟩
theorem Sq.next (h : Sq w0 w g n me m H P last) (hb : last < 100) :
    Calls Try.prog 15 #[.pointer (some ⟨g, 0, none⟩)] w fun e w' => e = .returned (.int .i64 (last + 1)) ∧ Sq w0 w' g n me m H (P.set (pl me) (last + 1)) (last + 1) ∧ Touch [g] w w' := by
  refine (qnext_c w g n me m H P last h.q h.k hb).mono ?_
  rintro e w' ⟨rfl, q, t⟩
  exact ⟨rfl, h.go q (h.k.next hb) t, t⟩
theorem Sq.commit (h : Sq w0 w g n me m H P last) :
    Calls Try.prog 17 #[.pointer (some ⟨g, 0, none⟩)] w fun e w' => ∃ r, e = .returned (.int .i64 r) ∧ IsR H n r ∧ Below w.heap.size w w' := qcommit_c w g n me m H P last h.q h.k
theorem Sq.probe (h : Sq w0 w g n me m H P last) :
    Calls Try.prog 19 #[.pointer (some ⟨g, 0, none⟩)] w fun e w' => ∃ r, e = .returned (.int .i64 r) ∧ IsR P n r ∧ Below w.heap.size w w' := qprobe_c w g n me m H P last h.q h.k
end
theorem Sq.new {w0 w w' : World} {n me : Int} {m : Nat} (hb : Below w0.heap.size w0 w) (h : Qs w' w.heap.size n me m none7 none7 0) (hk : Qk n me m none7 none7 0) (hn : Below w.heap.size w w') : Sq w0 w' w.heap.size n me m none7 none7 0 :=
  ⟨hb.trans (hn.mono hb.size), by have := hb.size; simpa using this, h, hk⟩

/-- What a list of numbers says. -/
theorem isR_of {l : List Int} {n r s : Int} (h : IsR l n r) (k : n / 2 < (ge l s : Int) ∧ (gt l s : Int) ≤ n / 2) : r = s := uniq h k

set_option maxHeartbeats 4000000 in
set_option maxRecDepth 100000 in
theorem begunQ_c (w : World) : Calls Try.prog 9 #[] w fun e w' => e = .returned (.bool true) ∧ Below w.heap.size w w' := by
  have G1 := Lib.hid (show PTeam.ofL [1, 2] = 3 by decide)
  have G2 := Lib.hid (show PTeam.ofL [1] = 1 by decide)
  go_enter Try.func9, Try.ntmps9
  go_wp2_with fail
  refine (tOf_c _ _ _ _ _ [1, 2] (Rd.new w #[.int .i64 1, .int .i64 2] _ 1 2 rfl (by simp [maxLen]))).mono ?_
  rintro e w1 ⟨rfl, rfl⟩
  rw [G1.out]
  have B0 := Lib.hid ((Below.refl w.heap.size w).alloc (Nat.le_refl _) (.cells #[.int .i64 1, .int .i64 2] 3))
  generalize w.alloc (.cells #[.int .i64 1, .int .i64 2] 3) = w1 at *
  go_wp2_with fail
  refine (qnew_yes w1 3 1 3 (by decide) (by decide)).mono ?_
  rintro e w2 ⟨rfl, q2, k2, b2⟩
  have S2 := Lib.hid (Sq.new B0.out q2 k2 b2)
  clear q2 k2 b2 B0
  generalize w1.heap.size = g at *
  clear w1
  go_wp2_with fail
  refine (tOf_c _ _ _ _ _ [1] (Rd.new w2 #[.int .i64 1] _ 1 1 rfl (by simp [maxLen]))).mono ?_
  rintro e w3 ⟨rfl, rfl⟩
  rw [G2.out]
  have S3 := Lib.hid (S2.out.alloc (.cells #[.int .i64 1] 3))
  generalize w2.alloc (.cells #[.int .i64 1] 3) = w3 at *
  clear S2
  go_wp2_with fail
  refine (qnew_no w3 3 1 1 (by omega) (by omega) (by decide)).mono ?_
  rintro e w4 ⟨rfl, rfl⟩
  go_wp2_with fail
  refine (tOf_c _ _ _ _ _ [1, 2] (Rd.new w3 #[.int .i64 1, .int .i64 2] _ 1 2 rfl (by simp [maxLen]))).mono ?_
  rintro e w4 ⟨rfl, rfl⟩
  rw [G1.out]
  have S4 := Lib.hid (S3.out.alloc (.cells #[.int .i64 1, .int .i64 2] 3))
  generalize w3.alloc (.cells #[.int .i64 1, .int .i64 2] 3) = w4 at *
  clear S3
  go_wp2_with fail
  refine (qnew_no w4 3 3 3 (by omega) (by omega) (by decide)).mono ?_
  rintro e w5 ⟨rfl, rfl⟩
  go_wp2_with fail
  refine (S4.out.ack 1 5 0).mono ?_
  rintro e w5 ⟨rfl, s5, -⟩
  rw [show okA 3 1 5 = true by decide]
  have S5 := Lib.hid s5
  clear s5 S4
  go_wp2_with fail
  refine S5.out.commit.mono ?_
  rintro e w6 ⟨r, rfl, hr, b6⟩
  obtain rfl : r = 0 := isR_of hr (by decide)
  have S6 := Lib.hid (S5.out.past b6)
  clear b6 hr S5
  go_wp2_with fail
  refine (S6.out.next (by omega)).mono ?_
  rintro e w7 ⟨rfl, s7, -⟩
  have S7 := Lib.hid s7
  clear s7 S6
  go_wp2_with fail
  refine (S7.out.ack 2 4 1).mono ?_
  rintro e w8 ⟨rfl, s8, -⟩
  rw [show okA 3 2 4 = true by decide]
  have S8 := Lib.hid s8
  clear s8 S7
  go_wp2_with fail
  refine S8.out.commit.mono ?_
  rintro e w9 ⟨r, rfl, hr, b9⟩
  obtain rfl : r = 4 := isR_of hr (by decide)
  have S9 := Lib.hid (S8.out.past b9)
  clear b9 hr S8
  go_wp2_with fail
  refine S9.out.probe.mono ?_
  rintro e w10 ⟨r, rfl, hr, b10⟩
  obtain rfl : r = 1 := isR_of hr (by decide)
  have S10 := Lib.hid (S9.out.past b10)
  clear b10 hr S9
  go_wp2_with fail
  refine (qhave_in _ _ _ _ _ _ _ _ S10.out.q S10.out.k 2 (by decide)).mono ?_
  rintro e w11 ⟨rfl, rfl⟩
  rw [show (aH 3 (aH 3 none7 1 5) 2 4).getD (pl 2) 0 = 4 by decide]
  go_wp2_with fail
  refine (qlast_c _ _ _ _ _ _ _ _ S10.out.q S10.out.k).mono ?_
  rintro e w12 ⟨rfl, rfl⟩
  go_wp2_with fail
  refine (S10.out.ack 3 1 0).mono ?_
  rintro e w13 ⟨rfl, s13, -⟩
  rw [show okA 3 3 1 = false by decide]
  have S13 := Lib.hid s13
  clear s13 S10
  go_wp2_with fail
  go_ret
  exact ⟨rfl, S13.out.bel⟩
end Go.Proofs.Ytdgpjolohghboaa
