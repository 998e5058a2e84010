/- A law's proof; contract of begun (layer 22). -/
import Derived.Test.YtfppngeldlpjiaaPrfA
namespace Go.Proofs.Ytfppngeldlpjiaa
open Go.RowKit PProof

/-- A proof of the law's own. -/
structure Sp (w0 w : World) (g : Nat) (last cl : Int) (A : List Int) (p : Bool) (ck cm : Int) : Prop where
  bel : Below w0.heap.size w0 w
  own : w0.heap.size ≤ g
  f : Pf w g last cl A p ck cm
  k : Ok last cl A ck
section
variable {w0 w w' : World} {g : Nat} {last cl ck cm : Int} {A : List Int} {p : Bool}
theorem Sp.past (h : Sp w0 w g last cl A p ck cm) (t : Below w.heap.size w w') : Sp w0 w' g last cl A p ck cm := ⟨h.bel.trans (t.mono h.bel.size), h.own, h.f.past t, h.k⟩
theorem Sp.tb (h : Sp w0 w g last cl A p ck cm) (t : Touch [g] w w') : Below w0.heap.size w w' := t.below (by simpa using h.own) h.bel.size
theorem Sp.far (h : Sp w0 w g last cl A p ck cm) {g2 : Nat} (t : Touch [g2] w w') (h2 : w0.heap.size ≤ g2) (hne : g ≠ g2) : Sp w0 w' g last cl A p ck cm :=
  ⟨h.bel.trans (t.below (by simpa using h2) h.bel.size), h.own, h.f.touch t (by simpa using hne), h.k⟩
theorem Sp.new (h : Below w0.heap.size w0 w) (b : Int) (h0 : 0 ≤ b) (h1 : b ≤ 2199023255552) : Calls Try.prog 10 #[.int .i64 b] w fun e w' => e = .returned (.pointer (some ⟨w.heap.size, 0, none⟩)) ∧ Sp w0 w' w.heap.size b b (List.replicate 64 0) false 0 0 ∧ Below w.heap.size w w' :=
  (pnew_c w b).mono fun _ _ ⟨e1, e2, e3⟩ => ⟨e1, ⟨h.trans (e3.mono h.size), h.size, e2, Ok.new h0 h1⟩, e3⟩
theorem Sp.ask (h : Sp w0 w g last cl A p ck cm) (x : Int) (hx : 0 ≤ x ∧ x ≤ 2199023255552) (hl : last < 2199023255552) :
    Calls Try.prog 11 #[.pointer (some ⟨g, 0, none⟩), .int .i64 x] w fun e w' => e = .returned (.int .i64 (last + 1)) ∧ Sp w0 w' g (last + 1) cl (askA A last x) p ck cm ∧ Touch [g] w w' :=
  (pask_c w g last cl A p ck cm h.f h.k x hx hl).mono fun _ _ ⟨e1, e2, e3, e4⟩ => ⟨e1, ⟨h.bel.trans (h.tb e4), h.own, e2, e3⟩, e4⟩
theorem Sp.get (h : Sp w0 w g last cl A p ck cm) (x c : Int) (ho : opn last cl x = true) :
    Calls Try.prog 13 #[.pointer (some ⟨g, 0, none⟩), .int .i64 x, .int .i64 c] w fun e w' => e = .returned (.bool true) ∧ Sp w0 w' g last x A true (tm A x) c ∧ Touch [g] w w' :=
  (pget_yes w g last cl A p ck cm h.f h.k x c ho).mono fun _ _ ⟨e1, e2, e3, e4⟩ => ⟨e1, ⟨h.bel.trans (h.tb e4), h.own, e2, e3⟩, e4⟩
theorem Sp.got (h : Sp w0 w g last cl A p ck cm) (x c : Int) (ho : opn last cl x = false) :
    Calls Try.prog 13 #[.pointer (some ⟨g, 0, none⟩), .int .i64 x, .int .i64 c] w fun e w' => e = .returned (.bool false) ∧ w = w' := pget_no w g last cl A p ck cm h.f h.k x c ho
theorem Sp.left (h : Sp w0 w g last cl A p ck cm) (t c : Int) (ht : 0 ≤ t ∧ t ≤ 2199023255552) {v : Int} (hv : left p ck cm t c = v) :
    Calls Try.prog 17 #[.pointer (some ⟨g, 0, none⟩), .int .i64 t, .int .i64 c] w fun e w' => e = .returned (.int .i64 v) ∧ w = w' := hv ▸ pleft_c w g last cl A p ck cm h.f h.k t c ht
theorem Sp.good (h : Sp w0 w g last cl A p ck cm) (t c : Int) (ht : 0 ≤ t ∧ t ≤ 2199023255552) {b : Bool} (hv : decide (0 < PProof.left p ck cm t c) = b) :
    Calls Try.prog 19 #[.pointer (some ⟨g, 0, none⟩), .int .i64 t, .int .i64 c] w fun e w' => e = .returned (.bool b) ∧ w = w' := hv ▸ pgood_c w g last cl A p ck cm h.f h.k t c ht
theorem Sp.drop (h : Sp w0 w g last cl A p ck cm) : Calls Try.prog 15 #[.pointer (some ⟨g, 0, none⟩)] w fun e w' => e = .returned (.tuple #[]) ∧ Sp w0 w' g last last A false ck cm ∧ Touch [g] w w' :=
  (pdrop_c w g last cl A p ck cm h.f h.k).mono fun _ _ ⟨e1, e2, e3⟩ => ⟨e1, ⟨h.bel.trans (h.tb e3), h.own, e2, h.k.drop⟩, e3⟩
end
theorem good_yes {ck cm t c : Int} (h1 : ck ≤ t) (h2 : cm ≤ c) (h3 : t - ck < 12) : decide (0 < PProof.left true ck cm t c) = true := by
  rw [left_yes ⟨rfl, h1, h2, h3⟩]; exact decide_eq_true (by omega)
theorem good_no {p : Bool} {ck cm t c : Int} (h : ¬ (p = true ∧ ck ≤ t ∧ cm ≤ c ∧ t - ck < 12)) : decide (0 < PProof.left p ck cm t c) = false := by
  rw [left_no h]; rfl
theorem tm_new {A : List Int} (hl : A.length = 64) (last x : Int) : tm (askA A last x) (last + 1) = x := by rw [ask_at hl, if_pos rfl]

set_option maxHeartbeats 1000000 in
set_option maxRecDepth 100000 in
theorem begunP_c (w : World) : Calls Try.prog 9 #[] w fun e w' => e = .returned (.bool true) ∧ Below w.heap.size w w' := by
  go_enter Try.func9, Try.ntmps9
  go_wp2_with fail
  refine (Sp.new (Below.refl w.heap.size w) 100 (by decide) (by decide)).mono ?_
  rintro e w1 ⟨rfl, s, -⟩
  have S1 := Lib.hid s
  clear s
  go_wp2_with fail
  refine (S1.out.ask 5 (by decide) (by decide)).mono ?_
  rintro e w2 ⟨he, s, -⟩
  have he : e = .returned (.int .i64 101) := he
  subst he
  have S2 : Hid (Sp w w2 w.heap.size 101 100 (askA (List.replicate 64 0) 100 5) false 0 0) := Lib.hid s
  have HT := Lib.hid (show tm (askA (List.replicate 64 0) 100 5) 101 = 5 from tm_new rfl 100 5)
  clear s S1
  generalize askA (List.replicate 64 0) 100 5 = A at *
  go_wp2_with fail
  refine (S2.out.good 5 9 (by decide) (good_no (by simp))).mono ?_
  rintro e w3 ⟨rfl, rfl⟩
  go_wp2_with fail
  refine (S2.out.get 101 3 (by decide)).mono ?_
  rw [HT.out]
  rintro e w3 ⟨rfl, s, -⟩
  have S3 := Lib.hid s
  clear s S2
  go_wp2_with fail
  refine (S3.out.good 16 3 (by decide) (good_yes (by decide) (by decide) (by decide))).mono ?_
  rintro e w4 ⟨rfl, rfl⟩
  go_wp2_with fail
  refine (S3.out.good 17 3 (by decide) (good_no (by decide))).mono ?_
  rintro e w4 ⟨rfl, rfl⟩
  go_wp2_with fail
  refine (S3.out.good 16 2 (by decide) (good_no (by decide))).mono ?_
  rintro e w4 ⟨rfl, rfl⟩
  go_wp2_with fail
  refine (S3.out.good 4 3 (by decide) (good_no (by decide))).mono ?_
  rintro e w4 ⟨rfl, rfl⟩
  go_wp2_with fail
  refine (S3.out.left 6 3 (by decide) (v := 11) (by decide)).mono ?_
  rintro e w4 ⟨rfl, rfl⟩
  go_wp2_with fail
  refine (S3.out.got 101 4 (by decide)).mono ?_
  rintro e w4 ⟨rfl, rfl⟩
  go_wp2_with fail
  go_ret
  exact ⟨rfl, S3.out.bel⟩
end Go.Proofs.Ytfppngeldlpjiaa
