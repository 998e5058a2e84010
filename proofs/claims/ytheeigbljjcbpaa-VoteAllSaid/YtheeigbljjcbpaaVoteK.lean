/- A law's votes; contracts of begun, logOf (layer 20). -/
import Derived.Test.YtheeigbljjcbpaaVoteD
namespace Go.Proofs.Ytheeigbljjcbpaa
open Go.RowKit PVote

/-- Votes of the law's own. -/
structure Sv (w0 w : World) (g : Nat) (F : List Nat) (view n : Int) (S : List (Option Vt)) : Prop where
  bel : Below w0.heap.size w0 w
  low : ∀ k ∈ F, w0.heap.size ≤ k
  vs : Vs w g F view n S
  pl : Pl S
  vn : VN view n
section
variable {w0 w w' : World} {g : Nat} {F : List Nat} {view n : Int} {S : List (Option Vt)} {T : List Nat}
theorem Sv.past (h : Sv w0 w g F view n S) (t : Below w.heap.size w w') : Sv w0 w' g F view n S := ⟨h.bel.trans (t.mono h.bel.size), h.low, h.vs.past t, h.pl, h.vn⟩
theorem Sv.drew (h : Sv w0 w g F view n S) : Sv w0 w.drew g F view n S := h.past (Below.refl _ _).drew
theorem Sv.alloc (h : Sv w0 w g F view n S) (o : Obj) : Sv w0 (w.alloc o) g F view n S := h.past ((Below.refl _ _).alloc (Nat.le_refl _) _)
/-- Behind a call that wrote other blocks of the law's own. -/
theorem Sv.far (h : Sv w0 w g F view n S) (t : Touch T w w') (h1 : ∀ k ∈ T, w0.heap.size ≤ k) (h2 : ∀ k ∈ T, k ∉ F) : Sv w0 w' g F view n S :=
  ⟨h.bel.trans (t.below h1 h.bel.size), h.low, h.vs.touch t h2, h.pl, h.vn⟩
theorem Sv.self (h : Sv w0 w g F view n S) : w0.heap.size ≤ g := h.low g h.vs.self
theorem Sv.go (h : Sv w0 w g F view n S) {S' : List (Option Vt)} (k : VsW w w' g F view n S') (hp : Pl S') : ∃ F', Sv w0 w' g F' view n S' ∧ Touch [g] w w' ∧ ∀ x ∈ F', x ∈ F ∨ w.heap.size ≤ x := by
  obtain ⟨⟨F', k1, k2⟩, k3⟩ := k
  refine ⟨F', ⟨h.bel.trans (k3.below (by have := h.self; simpa using this) h.bel.size), fun x hx => ?_, k1, hp, h.vn⟩, k3, k2⟩
  rcases k2 x hx with q | q
  · exact h.low x q
  · exact Nat.le_trans h.bel.size q
theorem Sv.add (h : Sv w0 w g F view n S) (v : Vt) (A : Option Addr) (c : Nat) (R : Rd w w.heap.size A c 7 v.es.length (els v.es)) :
    Calls Try.prog 12 #[.pointer (some ⟨g, 0, none⟩), vv v A c] w fun e w' => e = .returned (.bool (ok view n S v)) ∧ ∃ F', Sv w0 w' g F' view n (add view n S v) ∧ Touch [g] w w' ∧ ∀ x ∈ F', x ∈ F ∨ w.heap.size ≤ x :=
  (vadd_c w g F view n S h.vs h.vn.2.2.2 v A c R).mono fun _ _ ⟨e1, e2⟩ => ⟨e1, h.go e2 (pl_add h.pl v)⟩
theorem Sv.best (h : Sv w0 w g F view n S) : Calls Try.prog 14 #[.pointer (some ⟨g, 0, none⟩)] w (BestPost w n S) := by
  cases hm : PTeam.most (tm S) n
  · exact vbest_no w g F view n S h.vs hm
  · exact vbest_yes w g F view n S h.vs h.pl hm
end
theorem Sv.new {w0 w w' : World} {view n : Int} (hb : Below w0.heap.size w0 w) (hv : VN view n) (h : Vs w' w.heap.size [w.heap.size] view n none7) (hn : Below w.heap.size w w') : Sv w0 w' w.heap.size [w.heap.size] view n none7 :=
  ⟨hb.trans (hn.mono hb.size), by have := hb.size; simpa using this, h, pl_none, hv⟩

def vB1 : Vt := ⟨2, 3, [], 0⟩
def eB : Ent := ⟨1, 1, 1, 0, 0, 0, ⟨#[]⟩⟩
def vB2 : Vt := ⟨1, 4, [eB], 1⟩
def vB3 : Vt := ⟨1, 4, [], 0⟩
def sB1 : List (Option Vt) := [none, some vB1, none, none, none, none, none]
def sB2 : List (Option Vt) := [some vB2, some vB1, none, none, none, none, none]
theorem bg_ok1 : ok 5 3 none7 vB1 = true := by decide
theorem bg_add1 : add 5 3 none7 vB1 = sB1 := by unfold add; rw [bg_ok1]; rfl
theorem bg_most1 : PTeam.most (tm sB1) 3 = false := by decide
theorem bg_log : PLog.log [eB] = [eB] := by
  show PLog.add [] eB = [eB]
  unfold PLog.add; rw [show PLog.can [] eB = true by decide]; rfl
theorem bg_ok2 : ok 5 3 sB1 vB2 = true := by
  unfold ok good isLog
  rw [show vB2.es = [eB] from rfl, bg_log]
  decide
theorem bg_add2 : add 5 3 sB1 vB2 = sB2 := by unfold add; rw [bg_ok2]; rfl
theorem bg_most2 : PTeam.most (tm sB2) 3 = true := by decide
theorem bg_best2 : best 3 sB2 = ⟨1, 4, [eB], 1⟩ := by unfold best; rw [bg_most2]; rfl
theorem bg_best1 : best 3 sB1 = zero := by unfold best; rw [bg_most1]; rfl
theorem bg_tm2 : tm sB2 = 3 := by decide
theorem bg_ok3 : ok 5 3 sB2 vB3 = false := by decide
theorem vn53 : VN 5 3 := by unfold VN; omega

set_option maxHeartbeats 4000000 in
set_option maxRecDepth 100000 in
theorem begunV_c (w : World) : Calls Try.prog 9 #[] w fun e w' => e = .returned (.bool true) ∧ Below w.heap.size w w' := by
  go_enter Try.func9, Try.ntmps9
  go_wp2_with fail
  refine (vnew_yes w 5 3 vn53).mono ?_
  rintro e w1 ⟨rfl, h1, b1⟩
  have V1 := Lib.hid (Sv.new (Below.refl _ _) vn53 h1 b1)
  clear h1 b1
  generalize w.heap.size = g at V1 ⊢
  go_wp2_with fail
  have V2 := Lib.hid (V1.out.alloc (.cells #[.int .i64 1, .int .i64 1, .int .i64 1, .int .i64 0, .int .i64 0, .int .i64 0, .string ⟨#[]⟩] 52))
  have KE := Lib.hid (show Blk (w1.alloc (.cells #[.int .i64 1, .int .i64 1, .int .i64 1, .int .i64 0, .int .i64 0, .int .i64 0, .string ⟨#[]⟩] 52)) w1.heap.size 52 [.int .i64 1, .int .i64 1, .int .i64 1, .int .i64 0, .int .i64 0, .int .i64 0, .string ⟨#[]⟩] from Blk.newEnt w1 52 eB)
  generalize w1.alloc (.cells #[.int .i64 1, .int .i64 1, .int .i64 1, .int .i64 0, .int .i64 0, .int .i64 0, .string ⟨#[]⟩] 52) = w2 at *
  generalize w1.heap.size = ge at *
  refine (show Calls _ _ #[_, vv vB1 none 0] w2 _ from V2.out.add vB1 none 0 (Rd.nil _ _ _)).mono ?_
  rw [bg_ok1, bg_add1]
  rintro e w3 ⟨rfl, F3, v3, t3, -⟩
  have V3 := Lib.hid v3
  have KE3 := Lib.hid (KE.out.touch t3 (V2.out.vs.ne KE.out (by decide)))
  clear v3 t3 V2 KE V1
  go_wp2_with fail
  refine V3.out.best.mono ?_
  rintro e w4 ⟨BA, BC, he, -, b4⟩
  rw [bg_best1, bg_most1] at he
  have he : e = .returned (.tuple #[.agg #[.int .i64 0, .int .i64 0, .slice BA 0 BC, .int .i64 0], .bool false]) := he
  subst he
  have V4 := Lib.hid ((V3.out.past b4).alloc (.cells #[.int .i64 0, .int .i64 0, .slice BA 0 BC, .int .i64 0] 32))
  have KE4 := Lib.hid ((KE3.out.past b4).alloc (.cells #[.int .i64 0, .int .i64 0, .slice BA 0 BC, .int .i64 0] 32))
  clear b4 V3 KE3
  have RN := Lib.hid (show Rd ((w4.alloc (.cells #[.int .i64 0, .int .i64 0, .slice BA 0 BC, .int .i64 0] 32)).alloc (.cells (ecs eB).toArray 52)) (w4.heap.size + 1 + 1) (some ⟨w4.heap.size + 1, 0, none⟩) 1 7 1 (els [eB]) by
    have := Rd.new (w4.alloc (.cells #[.int .i64 0, .int .i64 0, .slice BA 0 BC, .int .i64 0] 32)) (ecs eB).toArray 52 7 1 rfl (by unfold maxLen; omega)
    rw [show (w4.alloc (.cells #[.int .i64 0, .int .i64 0, .slice BA 0 BC, .int .i64 0] 32)).heap.size = w4.heap.size + 1 by simp] at this
    exact this)
  have V5 := Lib.hid (V4.out.alloc (.cells (ecs eB).toArray 52))
  go_wp2_with (first | ((with_reducible show wpList _ _ _ ((⟨some 22, Op.load _ _, _, _, _, _⟩ : Oper) :: _) _ _); go_must (refine wpList_load_row rfl 52 (.tmp 2) rfl ge rfl 52 #[.int .i64 1, .int .i64 1, .int .i64 1, .int .i64 0, .int .i64 0, .int .i64 0, .string ⟨#[]⟩] (0, 0) _ KE4.out Try.underlying52 rfl (by kernel_rfl) ?_)) | ((with_reducible show wpList _ _ _ ((⟨some 23, Op.buildSlice _ _ _, _, _, _, _⟩ : Oper) :: _) _ _); go_must (refine wpList_buildE rfl (.tmp 22) rfl eB rfl ?_)))
  generalize ((w4.alloc (.cells #[.int .i64 0, .int .i64 0, .slice BA 0 BC, .int .i64 0] 32)).alloc (.cells (ecs eB).toArray 52)) = w5 at *
  refine (show Calls _ _ #[_, vv vB2 (some ⟨w4.heap.size + 1, 0, none⟩) 1] w5 _ from V5.out.add vB2 _ 1 RN.out.tight).mono ?_
  rw [bg_ok2, bg_add2]
  rintro e w6 ⟨rfl, F6, v6, -, -⟩
  have V6 := Lib.hid v6
  clear v6 V5 RN V4 KE4
  go_wp2_with fail
  refine V6.out.best.mono ?_
  rintro e w7 ⟨DA, DC, he, -, b7⟩
  rw [bg_best2, bg_most2] at he
  have he : e = .returned (.tuple #[.agg #[.int .i64 1, .int .i64 4, .slice DA 1 DC, .int .i64 1], .bool true]) := he
  subst he
  have V7 := Lib.hid (V6.out.past b7)
  have V8 := Lib.hid (V7.out.alloc (.cells #[.int .i64 1, .int .i64 4, .slice DA 1 DC, .int .i64 1] 32))
  clear b7 V6
  go_wp2_with fail
  generalize w7.alloc (.cells #[.int .i64 1, .int .i64 4, .slice DA 1 DC, .int .i64 1] 32) = w8 at *
  refine (vteam_c w8 g F6 5 3 sB2 V8.out.vs).mono ?_
  rw [bg_tm2]
  rintro e w9 ⟨rfl, rfl⟩
  go_wp2_with fail
  refine (venough_c w8 g F6 5 3 sB2 V8.out.vs).mono ?_
  rw [bg_most2]
  rintro e w9 ⟨rfl, b9⟩
  have V9 := Lib.hid (V8.out.past b9)
  clear b9 V8
  go_wp2_with fail
  refine (vview_c w9 g F6 5 3 sB2 V9.out.vs).mono ?_
  rintro e w10 ⟨rfl, rfl⟩
  go_wp2_with fail
  refine (show Calls _ _ #[_, vv vB3 none 0] w9 _ from V9.out.add vB3 none 0 (Rd.nil _ _ _)).mono ?_
  rw [bg_ok3]
  rintro e w10 ⟨rfl, F10, v10, -, -⟩
  go_wp2_with fail
  go_ret
  exact ⟨rfl, v10.bel⟩
end Go.Proofs.Ytheeigbljjcbpaa
