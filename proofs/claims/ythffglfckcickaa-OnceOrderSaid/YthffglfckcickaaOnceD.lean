/- A cell's asking: doSlow, Do, Get. -/
import Derived.Test.YthffglfckcickaaOnceC
namespace Go.Proofs.Ythffglfckcickaa
open Go.RowKit

/-- The method value that Get hands to Do. -/
abbrev fillOf (g : Nat) : Value := .func (.func 21) #[.pointer (some ⟨g, 0, none⟩)] #[]
/-- fill, called in the middle of Do. -/
def Fills (E : Ending) (T : World → World → List Int → Prop) (F : Value) (w : World) (g : Nat) : Prop :=
  ∀ w1, Touch [g] w w1 → Cel w1 g 0 1 0 F nilS → Calls Try.prog 21 #[.pointer (some ⟨g, 0, none⟩)] w1 fun e w2 => e = E ∧ Filled T w1 g 0 1 w2

set_option maxRecDepth 100000 in
set_option maxHeartbeats 1600000 in
theorem doSlow_r (w : World) (g : Nat) (F : Value) (h : Cel w g 0 0 0 F nilS) (T : World → World → List Int → Prop) (hf : Fills (.returned (.tuple #[])) T F w g) :
    Calls Try.prog 26 #[.pointer (some ⟨g, 0, none⟩), fillOf g] w fun e w' => e = .returned (.tuple #[]) ∧ Filled T w g 1 0 w' := by
  have hc1 := Blk.cell h (i := 1) rfl
  have hz1 := Blk.free h 1
  have hnot : ∀ (x : Bool) (w : World), (Op.unary .not (.bool x)).run Try.prog w = .ok (.bool (!x)) w := fun _ _ => rfl
  go_enter_defers Try.func26, Try.ntmps26
  go_wp2_with fail
  refine (lock_c ⟨g, 1, none⟩ w hc1 hz1).mono ?_
  rintro e w1 ⟨rfl, hw⟩
  have t1 : Touch [g] w w1 := by rw [hw]; exact (Touch.refl _ _).cell (by simp) _ _
  have C1 : Cel w1 g 0 1 0 F nilS := by rw [hw]; exact Cel.mk_lock h 1
  clear hw hc1 hz1
  have hc0 := Blk.cell C1 (i := 0) rfl
  go_wp2_with fail
  refine (bLoad0 ⟨g, 0, none⟩ w1 hc0).mono ?_
  rintro e w' ⟨rfl, rfl⟩
  go_wp2_with fail
  refine (hf w1 t1 C1).mono ?_
  rintro e w2 ⟨rfl, f2⟩
  go_wp2_with fail
  obtain ⟨m, C2⟩ := f2.cell
  refine leaves_cons (f := 27) (args := #[.pointer (some ⟨g, 0, none⟩), .bool true]) (by simp) (by simp [go_sem]) ?_
  refine (bStore_d ⟨g, 0, none⟩ _ .returning w2 (Blk.cell C2 (i := 0) rfl) (Blk.free C2 0)).mono ?_
  rintro e u' w3 ⟨rfl, rfl, hw⟩
  have f3 : Filled T w1 g 1 1 w3 := by rw [hw]; exact f2.drew.mk_done 1
  obtain ⟨m, C3⟩ := f3.cell
  clear hw f2 C2
  refine leaves_cons (f := 30) (args := #[.pointer (some ⟨g, 1, none⟩)]) (by simp [settle]) (by simp [go_sem]) ?_
  refine (unlock_d ⟨g, 1, none⟩ _ w3 (Blk.cell C3 (i := 1) rfl) (Blk.free C3 1)).mono ?_
  rintro e u' w4 ⟨rfl, rfl, hw⟩
  have f4 : Filled T w g 1 0 w4 := by rw [hw]; exact (f3.mk_lock 0).before t1
  simp [Leaves, settle, results, Try.results26, f4]

set_option maxRecDepth 100000 in
set_option maxHeartbeats 1600000 in
theorem doSlow_p (w : World) (g : Nat) (F : Value) (v : Value) (h : Cel w g 0 0 0 F nilS) (T : World → World → List Int → Prop) (hf : Fills (.panicked [{ v := v, recovered := false }]) T F w g) :
    Calls Try.prog 26 #[.pointer (some ⟨g, 0, none⟩), fillOf g] w fun e w' => e = .panicked [{ v := v, recovered := false }] ∧ Filled T w g 1 0 w' := by
  have hc1 := Blk.cell h (i := 1) rfl
  have hz1 := Blk.free h 1
  have hnot : ∀ (x : Bool) (w : World), (Op.unary .not (.bool x)).run Try.prog w = .ok (.bool (!x)) w := fun _ _ => rfl
  go_enter_defers Try.func26, Try.ntmps26
  go_wp2_with fail
  refine (lock_c ⟨g, 1, none⟩ w hc1 hz1).mono ?_
  rintro e w1 ⟨rfl, hw⟩
  have t1 : Touch [g] w w1 := by rw [hw]; exact (Touch.refl _ _).cell (by simp) _ _
  have C1 : Cel w1 g 0 1 0 F nilS := by rw [hw]; exact Cel.mk_lock h 1
  clear hw hc1 hz1
  have hc0 := Blk.cell C1 (i := 0) rfl
  go_wp2_with fail
  refine (bLoad0 ⟨g, 0, none⟩ w1 hc0).mono ?_
  rintro e w' ⟨rfl, rfl⟩
  go_wp2_with fail
  refine (hf w1 t1 C1).mono ?_
  rintro e w2 ⟨rfl, f2⟩
  obtain ⟨m, C2⟩ := f2.cell
  refine leaves_cons (f := 27) (args := #[.pointer (some ⟨g, 0, none⟩), .bool true]) (by simp) (by simp [go_sem]) ?_
  refine (bStore_d ⟨g, 0, none⟩ _ _ w2 (Blk.cell C2 (i := 0) rfl) (Blk.free C2 0)).mono ?_
  rintro e u' w3 ⟨rfl, rfl, hw⟩
  have f3 : Filled T w1 g 1 1 w3 := by rw [hw]; exact f2.drew.mk_done 1
  obtain ⟨m, C3⟩ := f3.cell
  clear hw f2 C2
  refine leaves_cons (f := 30) (args := #[.pointer (some ⟨g, 1, none⟩)]) (by simp [settle]) (by simp [go_sem]) ?_
  refine (unlock_d ⟨g, 1, none⟩ _ w3 (Blk.cell C3 (i := 1) rfl) (Blk.free C3 1)).mono ?_
  rintro e u' w4 ⟨rfl, rfl, hw⟩
  have f4 : Filled T w g 1 0 w4 := by rw [hw]; exact (f3.mk_lock 0).before t1
  simp [Leaves, settle, f4]

theorem Do_r (w : World) (g : Nat) (F : Value) (h : Cel w g 0 0 0 F nilS) (T : World → World → List Int → Prop) (hf : Fills (.returned (.tuple #[])) T F w g) :
    Calls Try.prog 20 #[.pointer (some ⟨g, 0, none⟩), fillOf g] w fun e w' => e = .returned (.tuple #[]) ∧ Filled T w g 1 0 w' := by
  have hc0 := Blk.cell h (i := 0) rfl
  have hnot : ∀ (x : Bool) (w : World), (Op.unary .not (.bool x)).run Try.prog w = .ok (.bool (!x)) w := fun _ _ => rfl
  go_enter Try.func20, Try.ntmps20
  go_wp2_with fail
  refine (bLoad0 ⟨g, 0, none⟩ w hc0).mono ?_
  rintro e w' ⟨rfl, rfl⟩
  go_wp2_with fail
  refine (doSlow_r w g F h T hf).mono ?_
  rintro e w1 ⟨rfl, f1⟩
  go_wp2_with fail
  go_end0
  exact ⟨rfl, f1⟩

theorem Do_p (w : World) (g : Nat) (F : Value) (v : Value) (h : Cel w g 0 0 0 F nilS) (T : World → World → List Int → Prop) (hf : Fills (.panicked [{ v := v, recovered := false }]) T F w g) :
    Calls Try.prog 20 #[.pointer (some ⟨g, 0, none⟩), fillOf g] w fun e w' => e = .panicked [{ v := v, recovered := false }] ∧ Filled T w g 1 0 w' := by
  have hc0 := Blk.cell h (i := 0) rfl
  have hnot : ∀ (x : Bool) (w : World), (Op.unary .not (.bool x)).run Try.prog w = .ok (.bool (!x)) w := fun _ _ => rfl
  go_enter Try.func20, Try.ntmps20
  go_wp2_with fail
  refine (bLoad0 ⟨g, 0, none⟩ w hc0).mono ?_
  rintro e w' ⟨rfl, rfl⟩
  go_wp2_with fail
  refine (doSlow_p w g F v h T hf).mono ?_
  rintro e w1 ⟨rfl, f1⟩
  exact ⟨rfl, rfl, f1⟩

theorem Do_done (w : World) (g : Nat) (s k : Int) (f m : Value) (h : Cel w g 1 s k f m) (F : Value) :
    Calls Try.prog 20 #[.pointer (some ⟨g, 0, none⟩), F] w fun e w' => e = .returned (.tuple #[]) ∧ w = w' := by
  have hc0 := Blk.cell h (i := 0) rfl
  have hnot : ∀ (x : Bool) (w : World), (Op.unary .not (.bool x)).run Try.prog w = .ok (.bool (!x)) w := fun _ _ => rfl
  go_enter Try.func20, Try.ntmps20
  go_wp2_with fail
  refine (bLoad1 ⟨g, 0, none⟩ w hc0).mono ?_
  rintro e w' ⟨rfl, rfl⟩
  go_wp2_with fail
  go_end0
  exact ⟨rfl, rfl⟩

theorem Get_nil (w : World) :
    Calls Try.prog 12 #[.pointer none] w fun e w' => e = .returned (.slice none 0 0) ∧ w = w' := by
  go_enter Try.func12, Try.ntmps12
  go_wp2_with fail
  go_ret
  exact ⟨rfl, rfl⟩

/-- What Get hands back: l, in memory of its own. -/
def Hands (w : World) (l : List Int) (e : Ending) (w' : World) : Prop :=
  ∃ A n c, e = .returned (.slice A n c) ∧ w'.ownsRow w.heap.size 2 1 (.slice A n c) n (is l) ∧ Below w.heap.size w w'

theorem Get_made (w : World) (B g : Nat) (l : List Int) (h : Made B w g l) :
    Calls Try.prog 12 #[.pointer (some ⟨g, 0, none⟩)] w fun e w' => Hands w l e w' := by
  obtain ⟨A, n, c, C, hown, hl⟩ := h
  have hmf : ∀ (fn : Fn) (first cap : Array Value) (w : World), (Instr.makeFunc fn first cap).run Try.prog w = .ok (.func fn first cap) w := fun _ _ _ _ => rfl
  have hc5 := Blk.cell C (i := 5) rfl
  go_enter Try.func12, Try.ntmps12
  go_wp2_with fail
  refine (Do_done w g _ _ _ _ C _).mono ?_
  rintro e w' ⟨rfl, rfl⟩
  go_wp2_with fail
  refine (Clone_c w _ A c n l (Rd.of_own hown) hl).mono ?_
  rintro e w1 ⟨A', c', rfl, hown1, hb⟩
  go_wp2_with fail
  go_ret
  exact ⟨A', n, c', rfl, hown1, hb⟩

/-- The first Get: the filling, then a copy. -/
theorem Get_first (w : World) (g : Nat) (F : Value) (h : Cel w g 0 0 0 F nilS) (T : World → World → List Int → Prop) (hf : Fills (.returned (.tuple #[])) T F w g) :
    Calls Try.prog 12 #[.pointer (some ⟨g, 0, none⟩)] w fun e w' => ∃ w1 w2 w3 l, Touch [g] w w1 ∧ T w1 w2 l ∧ Touch [g] w2 w3 ∧ Made w2.heap.size w3 g l ∧ Hands w3 l e w' := by
  have hmf : ∀ (fn : Fn) (first cap : Array Value) (w : World), (Instr.makeFunc fn first cap).run Try.prog w = .ok (.func fn first cap) w := fun _ _ _ _ => rfl
  go_enter Try.func12, Try.ntmps12
  go_wp2_with fail
  refine (Do_r w g F h T hf).mono ?_
  rintro e w3 ⟨rfl, w1, w2, l, A, n, c, h1, h2, h3, C, hown, hl⟩
  have hc5 := Blk.cell C (i := 5) rfl
  go_wp2_with fail
  refine (Clone_c w3 _ A c n l (Rd.of_own hown) hl).mono ?_
  rintro e w4 ⟨A', c', rfl, hown1, hb⟩
  go_wp2_with fail
  go_ret
  exact ⟨w1, w2, w3, l, h1, h2, h3, ⟨A, n, c, C, hown, hl⟩, A', n, c', rfl, hown1, hb⟩

theorem Get_falls (w : World) (g : Nat) (F : Value) (v : Value) (h : Cel w g 0 0 0 F nilS) (T : World → World → List Int → Prop) (hf : Fills (.panicked [{ v := v, recovered := false }]) T F w g) :
    Calls Try.prog 12 #[.pointer (some ⟨g, 0, none⟩)] w fun e w' => e = .panicked [{ v := v, recovered := false }] ∧ Filled T w g 1 0 w' := by
  have hmf : ∀ (fn : Fn) (first cap : Array Value) (w : World), (Instr.makeFunc fn first cap).run Try.prog w = .ok (.func fn first cap) w := fun _ _ _ _ => rfl
  go_enter Try.func12, Try.ntmps12
  go_wp2_with fail
  refine (Do_p w g F v h T hf).mono ?_
  rintro e w3 ⟨rfl, f3⟩
  exact ⟨rfl, rfl, f3⟩
end Go.Proofs.Ythffglfckcickaa
