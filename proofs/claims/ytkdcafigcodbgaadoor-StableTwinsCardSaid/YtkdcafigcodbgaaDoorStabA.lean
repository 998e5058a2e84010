/- Contracts of package stable, but Bytes and Read; of the document's Promise. -/
import Derived.Test.YtkdcafigcodbgaaDoorPlainStab
import Derived.Test.YtkdcafigcodbgaaDoorTouch
import Derived.Test.YtkdcafigcodbgaaDoorNumC
import Derived.Deep.CutRange
namespace Go.Proofs.YtkdcafigcodbgaaDoor
open Go.RowKit PStab

/-- A disk: its two numbers. -/
def Ds (w : World) (g : Nat) (b v : Int) : Prop := Blk w g 27 [.int .i64 b, .int .i64 v]
/-- The document's own. -/
def Dr (w : World) (g : Nat) (b v : Int) : Prop := Blk w g 30 [.int .i64 b, .int .i64 v]
theorem Ds.past {w w' : World} {g : Nat} {b v : Int} (h : Ds w g b v) (hb : Below w.heap.size w w') : Ds w' g b v := Blk.past h hb
theorem Dr.past {w w' : World} {g : Nat} {b v : Int} (h : Dr w g b v) (hb : Below w.heap.size w w') : Dr w' g b v := Blk.past h hb
theorem Ds.lt {w : World} {g : Nat} {b v : Int} (h : Ds w g b v) : g < w.heap.size := Blk.lt h
theorem Dr.lt {w : World} {g : Nat} {b v : Int} (h : Dr w g b v) : g < w.heap.size := Blk.lt h

theorem start_nil (w : World) : Calls Tryd.prog 12 #[.pointer none] w fun e w' => e = .returned (.int .i64 0) ∧ w = w' := by
  go_enter Tryd.func12, Tryd.ntmps12
  go_wp2_with fail
  go_ret
  exact ⟨rfl, rfl⟩
theorem prom_nil (w : World) (x : Int) : Calls Tryd.prog 10 #[.pointer none, .int .i64 x] w fun e w' => e = .returned (.bool false) ∧ w = w' := by
  go_enter Tryd.func10, Tryd.ntmps10
  go_wp2_with fail
  go_ret
  exact ⟨rfl, rfl⟩
theorem boot_nil (w : World) : Calls Tryd.prog 14 #[.pointer none] w fun e w' => e = .returned (.int .i64 0) ∧ w = w' := by
  go_enter Tryd.func14, Tryd.ntmps14
  go_wp2_with fail
  go_ret
  exact ⟨rfl, rfl⟩
theorem view_nil (w : World) : Calls Tryd.prog 15 #[.pointer none] w fun e w' => e = .returned (.int .i64 0) ∧ w = w' := by
  go_enter Tryd.func15, Tryd.ntmps15
  go_wp2_with fail
  go_ret
  exact ⟨rfl, rfl⟩
theorem bytes_nil (w : World) : Calls Tryd.prog 13 #[.pointer none] w fun e w' => e = .returned (.slice none 0 0) ∧ w = w' := by
  go_enter Tryd.func13, Tryd.ntmps13
  go_wp2_with fail
  go_ret
  exact ⟨rfl, rfl⟩
theorem boot_c (w : World) (g : Nat) (b v : Int) (h : Ds w g b v) : Calls Tryd.prog 14 #[.pointer (some ⟨g, 0, none⟩)] w fun e w' => e = .returned (.int .i64 b) ∧ w = w' := by
  have q0 := Blk.cell h (i := 0) rfl
  go_enter Tryd.func14, Tryd.ntmps14
  go_wp2_with fail
  go_ret
  exact ⟨rfl, rfl⟩
theorem view_c (w : World) (g : Nat) (b v : Int) (h : Ds w g b v) : Calls Tryd.prog 15 #[.pointer (some ⟨g, 0, none⟩)] w fun e w' => e = .returned (.int .i64 v) ∧ w = w' := by
  have q1 := Blk.cell h (i := 1) rfl
  go_enter Tryd.func15, Tryd.ntmps15
  go_wp2_with fail
  go_ret
  exact ⟨rfl, rfl⟩
theorem start_c (w : World) (g : Nat) (b v : Int) (h : Ds w g b v) (hb : Ok b) (hlt : b < 1099511627776) :
    Calls Tryd.prog 12 #[.pointer (some ⟨g, 0, none⟩)] w fun e w' => e = .returned (.int .i64 (b + 1)) ∧ Ds w' g (b + 1) v ∧ Touch [g] w w' := by
  have q0 := Blk.cell h (i := 0) rfl
  have f0 := Blk.free h 0
  have h0 := hb.1
  go_enter Tryd.func12, Tryd.ntmps12
  go_wp2_with fail
  go_ret
  exact ⟨rfl, Blk.set h 0 _, (Touch.refl _ _).cell (by simp) 0 _⟩
theorem start_end (w : World) (g : Nat) (v : Int) (h : Ds w g 1099511627776 v) :
    Calls Tryd.prog 12 #[.pointer (some ⟨g, 0, none⟩)] w fun e w' => e = .returned (.int .i64 0) ∧ w = w' := by
  have q0 := Blk.cell h (i := 0) rfl
  go_enter Tryd.func12, Tryd.ntmps12
  go_wp2_with fail
  go_ret
  exact ⟨rfl, rfl⟩
theorem prom_c (w : World) (g : Nat) (b v : Int) (h : Ds w g b v) (x : Int) :
    Calls Tryd.prog 10 #[.pointer (some ⟨g, 0, none⟩), .int .i64 x] w fun e w' => e = .returned (.bool (may v x)) ∧ Ds w' g b (put v x) ∧ Touch [g] w w' := by
  have q1 := Blk.cell h (i := 1) rfl
  have f1 := Blk.free h 1
  rcases (by omega : x ≤ v ∨ v < x ∧ 1099511627776 < x ∨ v < x ∧ x ≤ 1099511627776) with k | ⟨k, k2⟩ | ⟨k, k2⟩
  · have H := Lib.hid (show may v x = false ∧ put v x = v from ⟨may_no (by omega), put_no (by omega)⟩)
    go_enter Tryd.func10, Tryd.ntmps10
    go_wp2_with fail
    go_ret
    exact ⟨by rw [H.out.1]; rfl, by rw [H.out.2]; exact h, Touch.refl _ _⟩
  · have H := Lib.hid (show may v x = false ∧ put v x = v from ⟨may_no (by omega), put_no (by omega)⟩)
    go_enter Tryd.func10, Tryd.ntmps10
    go_wp2_with fail
    go_ret
    exact ⟨by rw [H.out.1]; rfl, by rw [H.out.2]; exact h, Touch.refl _ _⟩
  · have H := Lib.hid (show may v x = true ∧ put v x = x from ⟨may_yes ⟨k, k2⟩, put_yes ⟨k, k2⟩⟩)
    go_enter Tryd.func10, Tryd.ntmps10
    go_wp2_with fail
    go_ret
    exact ⟨by rw [H.out.1]; rfl, by rw [H.out.2]; exact Blk.set h 1 _, (Touch.refl _ _).cell (by simp) 1 _⟩
theorem rProm_c (w : World) (g : Nat) (b v : Int) (h : Dr w g b v) (x : Int) :
    Calls Tryd.prog 11 #[.pointer (some ⟨g, 0, none⟩), .int .i64 x] w fun e w' => e = .returned (.bool (may v x)) ∧ Dr w' g b (put v x) ∧ Touch [g] w w' := by
  have q1 := Blk.cell h (i := 1) rfl
  have f1 := Blk.free h 1
  rcases (by omega : x ≤ v ∨ v < x ∧ 1099511627776 < x ∨ v < x ∧ x ≤ 1099511627776) with k | ⟨k, k2⟩ | ⟨k, k2⟩
  · have H := Lib.hid (show may v x = false ∧ put v x = v from ⟨may_no (by omega), put_no (by omega)⟩)
    go_enter Tryd.func11, Tryd.ntmps11
    go_wp2_with fail
    go_ret
    exact ⟨by rw [H.out.1]; rfl, by rw [H.out.2]; exact h, Touch.refl _ _⟩
  · have H := Lib.hid (show may v x = false ∧ put v x = v from ⟨may_no (by omega), put_no (by omega)⟩)
    go_enter Tryd.func11, Tryd.ntmps11
    go_wp2_with fail
    go_ret
    exact ⟨by rw [H.out.1]; rfl, by rw [H.out.2]; exact h, Touch.refl _ _⟩
  · have H := Lib.hid (show may v x = true ∧ put v x = x from ⟨may_yes ⟨k, k2⟩, put_yes ⟨k, k2⟩⟩)
    go_enter Tryd.func11, Tryd.ntmps11
    go_wp2_with fail
    go_ret
    exact ⟨by rw [H.out.1]; rfl, by rw [H.out.2]; exact Blk.set h 1 _, (Touch.refl _ _).cell (by simp) 1 _⟩

/-- What readOne answers. -/
def OnePost (w : World) (r : Option (Int × List Int)) (e : Ending) (w' : World) : Prop :=
  match r with
  | none => e = .returned (.tuple #[.int .i64 0, .slice none 0 0, .bool false]) ∧ Below w.heap.size w w'
  | some (x, s) => ∃ A' c', e = .returned (.tuple #[.int .i64 x, .slice A' s.length c', .bool true]) ∧ Rd w' w'.heap.size A' c' 1 s.length (bs s) ∧ Below w.heap.size w w'

set_option maxRecDepth 100000 in
theorem one_c (w : World) (B : Nat) (A : Option Addr) (c n : Nat) (l : List Int) (h : Rd w B A c 1 n (bs l)) (hb : isB l) :
    Calls Tryd.prog 24 #[.slice A n c] w (OnePost w (one l)) := by
  obtain ⟨x, k, q, hg⟩ : ∃ x k q, PNum.getB 0 0 l = (x, k, q) := ⟨_, _, _, rfl⟩
  have hlen := h.blen
  by_cases hq : q = 0
  · subst hq
    obtain ⟨t1, t2, t3⟩ := PNum.getB_whole hb hg
    obtain ⟨K, rfl⟩ : ∃ K : Nat, k = (K : Int) := ⟨k.toNat, by omega⟩
    rcases (by omega : x < 0 ∨ ¬ x < 0 ∧ 1099511627776 < x ∨ 0 ≤ x ∧ x ≤ 1099511627776) with o1 | ⟨o1, o2⟩ | ⟨o1, o2⟩
    · have H := Lib.hid (show one l = none by unfold one; rw [hg, if_neg (by simp; omega)])
      have HG := Lib.hid hg
      clear hg t1 t2 t3 hlen
      go_enter Tryd.func24, Tryd.ntmps24
      go_wp2_with fail
      refine (Get_c w B A c n l h hb).mono ?_
      rw [HG.out]
      unfold tup3
      rintro e w' ⟨rfl, rfl⟩
      go_wp2_with fail
      go_ret3
      rw [H.out]
      exact ⟨rfl, Below.refl _ _⟩
    · have H := Lib.hid (show one l = none by unfold one; rw [hg, if_neg (by simp; omega)])
      have HG := Lib.hid hg
      clear hg t1 t2 t3 hlen
      go_enter Tryd.func24, Tryd.ntmps24
      go_wp2_with fail
      refine (Get_c w B A c n l h hb).mono ?_
      rw [HG.out]
      unfold tup3
      rintro e w' ⟨rfl, rfl⟩
      go_wp2_with fail
      go_ret3
      rw [H.out]
      exact ⟨rfl, Below.refl _ _⟩
    · have H := Lib.hid (show one l = some (x, l.drop K) by unfold one; rw [hg, if_pos ⟨rfl, o1, o2⟩]; rfl)
      have HG := Lib.hid hg
      obtain ⟨A1, d1, C1, h1⟩ := cut_any (P := Tryd.prog) 33 5 Tryd.underlying33 byte_info h (some (.int .i64 (K : Int))) none K n (K : Int) 0 (.inr ⟨rfl, rfl⟩) (.inl ⟨rfl, rfl⟩) (by omega) (by omega)
      have hl2 : (l.drop K).length = n - K := by rw [List.length_drop]; omega
      have h2 : Rd w B A1 d1 1 (n - K) (bs (l.drop K)) := by
        have e : ((bs l).drop (K * 1)).take ((n - K) * 1) = bs (l.drop K) := by
          rw [Nat.mul_one, Nat.mul_one, ← bs_drop, List.take_of_length_le (by rw [bs_length]; omega)]
        rw [e] at h1; exact h1
      have HL2 := Lib.hid hl2
      clear hg t1 t2 t3 hlen h1 hl2
      go_enter Tryd.func24, Tryd.ntmps24
      go_wp2_with fail
      refine (Get_c w B A c n l h hb).mono ?_
      rw [HG.out]
      unfold tup3
      rintro e w' ⟨rfl, rfl⟩
      go_upto_region 4 with fail
-- REGION curfew/stable.readOne 4 sone4 6
      refine Hb.begin ?_
      refine Hb.take (v := .int .i64 x) 0 24 rfl ?_ (fun _ _ => rfl)
      refine Hb.take (v := .slice A n c) 1 25 rfl ?_ (fun _ _ => rfl)
      refine Hb.take (v := .int .i64 (K : Int)) 2 26 rfl ?_ (fun _ _ => rfl)
      refine Hb.take (v := .slice A1 (n - K) d1) 3 27 rfl ?_ (fun w' hw' => by exact run_sliceOp (C1 w'))
      refine Hb.take (v := .int .i64 x) 4 2 rfl ?_ (fun _ _ => rfl)
      refine Hb.take (v := .slice A1 (n - K) d1) 5 3 rfl ?_ (fun _ _ => rfl)
      refine Hb.take (v := Value.bool true) 6 4 rfl ?_ (fun _ _ => rfl)
      refine Hb.done ?_
-- END
      go_wp2_with fail
      go_ret3
      rw [H.out]
      exact ⟨A1, d1, by rw [HL2.out]; rfl, by rw [HL2.out]; exact h2.drew.tight, (Below.refl _ _).drew⟩
  · have H := Lib.hid (show one l = none by unfold one; rw [hg, if_neg (by simp [hq])])
    have HG := Lib.hid hg
    have hq1 : (q == 0) = false := by simpa using hq
    have hq2 : (q != 0) = true := by simpa using hq
    clear hg hlen hq
    go_enter Tryd.func24, Tryd.ntmps24
    go_wp2_with fail
    refine (Get_c w B A c n l h hb).mono ?_
    rw [HG.out]
    unfold tup3
    rintro e w' ⟨rfl, rfl⟩
    go_wp2_with fail
    go_ret3
    rw [H.out]
    exact ⟨rfl, Below.refl _ _⟩
end Go.Proofs.YtkdcafigcodbgaaDoor
