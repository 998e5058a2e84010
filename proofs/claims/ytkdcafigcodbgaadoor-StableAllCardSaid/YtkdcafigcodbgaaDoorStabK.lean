/- A law's disk; contract of begun (layer 19). -/
import Derived.Test.YtkdcafigcodbgaaDoorStabB
import Derived.Test.YtkdcafigcodbgaaDoorStabC
import Derived.Test.YtkdcafigcodbgaaDoorLaid
namespace Go.Proofs.YtkdcafigcodbgaaDoor
open Go.RowKit PStab

/-- A disk of the law's own. -/
structure Sd (w0 w : World) (g : Nat) (b v : Int) : Prop where
  bel : Below w0.heap.size w0 w
  own : w0.heap.size ≤ g
  ds : Ds w g b v
  ob : Ok b
  ov : Ok v
section
variable {w0 w w' : World} {g k : Nat} {b v b' v' : Int}
theorem Sd.past (h : Sd w0 w g b v) (t : Below w.heap.size w w') : Sd w0 w' g b v := ⟨h.bel.trans (t.mono h.bel.size), h.own, h.ds.past t, h.ob, h.ov⟩
theorem Sd.drew (h : Sd w0 w g b v) : Sd w0 w.drew g b v := h.past (Below.refl _ _).drew
theorem Sd.go (h : Sd w0 w g b v) (d : Ds w' g b' v') (t : Touch [g] w w') (ob : Ok b') (ov : Ok v') : Sd w0 w' g b' v' :=
  ⟨h.bel.trans (t.below (by simpa using h.own) h.bel.size), h.own, d, ob, ov⟩
theorem Sd.far (h : Sd w0 w g b v) (t : Touch [k] w w') (hk : w0.heap.size ≤ k) (hg : g ≠ k) : Sd w0 w' g b v :=
  ⟨h.bel.trans (t.below (by simpa using hk) h.bel.size), h.own, Blk.touch h.ds t (by simpa using hg), h.ob, h.ov⟩
theorem Sd.start (h : Sd w0 w g b v) (hb : b < 1099511627776) : Calls Tryd.prog 12 #[.pointer (some ⟨g, 0, none⟩)] w fun e w' => e = .returned (.int .i64 (b + 1)) ∧ Sd w0 w' g (b + 1) v ∧ Touch [g] w w' :=
  (start_c w g b v h.ds h.ob hb).mono fun _ _ ⟨e1, e2, e3⟩ => ⟨e1, h.go e2 e3 (by have := h.ob; unfold Ok at *; omega) h.ov, e3⟩
theorem Sd.promise (h : Sd w0 w g b v) (x : Int) : Calls Tryd.prog 10 #[.pointer (some ⟨g, 0, none⟩), .int .i64 x] w fun e w' => e = .returned (.bool (may v x)) ∧ Sd w0 w' g b (put v x) ∧ Touch [g] w w' :=
  (prom_c w g b v h.ds x).mono fun _ _ ⟨e1, e2, e3⟩ => ⟨e1, h.go e2 e3 h.ob (put_ok h.ov), e3⟩
theorem Sd.bytes (h : Sd w0 w g b v) (ht : Tab w0) : Calls Tryd.prog 13 #[.pointer (some ⟨g, 0, none⟩)] w (BytesPost w b v) :=
  bytes_c w g b v h.ds h.ob.fit h.ov.fit (ht.past h.bel)
end

theorem ok_0 : Ok 0 := ⟨by decide, by decide⟩
theorem ok_1 : Ok 1 := ⟨by decide, by decide⟩
theorem ok_5 : Ok 5 := ⟨by decide, by decide⟩

set_option maxHeartbeats 1000000 in
set_option maxRecDepth 100000 in
theorem begunS_c (w : World) (ht : Tab w) : Calls Tryd.prog 9 #[] w fun e w' => e = .returned (.bool true) ∧ Below w.heap.size w w' := by
  have S0 : Hid (Sd w (w.alloc (.cells #[.int .i64 0, .int .i64 0] 27)) w.heap.size 0 0) := Lib.hid
    ⟨(Below.refl _ _).alloc (Nat.le_refl _) _, Nat.le_refl _, Blk.new w #[.int .i64 0, .int .i64 0] _, ok_0, ok_0⟩
  have HD := Lib.hid (dec_yes ok_1 ok_5)
  go_enter Tryd.func9, Tryd.ntmps9
  go_wp2_with fail
  generalize w.alloc (.cells #[.int .i64 0, .int .i64 0] 27) = w1 at *
  refine (S0.out.start (by decide)).mono ?_
  rintro e w2 ⟨he, s2, -⟩
  have he : e = .returned (.int .i64 1) := he
  subst he
  have S2 : Hid (Sd w w2 w.heap.size 1 0) := Lib.hid s2
  clear s2 S0
  go_wp2_with fail
  refine (S2.out.promise 5).mono ?_
  rintro e w3 ⟨he, s3, -⟩
  have he : e = .returned (.bool true) := he
  subst he
  have S3 : Hid (Sd w w3 w.heap.size 1 5) := Lib.hid s3
  clear s3 S2
  go_wp2_with fail
  refine (S3.out.promise 5).mono ?_
  rintro e w4 ⟨he, s4, -⟩
  have he : e = .returned (.bool false) := he
  subst he
  have S4 : Hid (Sd w w4 w.heap.size 1 5) := Lib.hid s4
  clear s4 S3
  go_wp2_with fail
  refine (S4.out.bytes ht).mono ?_
  rintro e w5 ⟨A5, c5, rfl, ho, b5⟩
  have R5 := Lib.hid (Rd.of_own ho)
  have S5 := Lib.hid (S4.out.past b5)
  clear ho b5 S4
  have HL := Lib.hid (enc_len ok_1.fit ok_5.fit)
  go_wp2_with fail
  refine (read_c w5 _ A5 c5 _ _ R5.out (enc_byte 1 5) (ht.past S5.out.bel) (by have := HL.out; omega)).mono ?_
  rw [HD.out]
  rintro e w6 ⟨g6, rfl, -, d6, b6⟩
  have S6 := Lib.hid (S5.out.past b6)
  have D6 := Lib.hid d6
  clear d6 b6 S5 R5
  go_wp2_with fail
  refine (boot_c w6 g6 1 5 D6.out).mono ?_
  rintro e w7 ⟨rfl, rfl⟩
  go_wp2_with fail
  refine (view_c w6 g6 1 5 D6.out).mono ?_
  rintro e w7 ⟨rfl, rfl⟩
  go_wp2_with fail
  refine (view_c w6 _ 1 5 S6.out.ds).mono ?_
  rintro e w7 ⟨rfl, rfl⟩
  go_wp2_with fail
  go_ret
  exact ⟨rfl, S6.out.bel⟩
end Go.Proofs.YtkdcafigcodbgaaDoor
