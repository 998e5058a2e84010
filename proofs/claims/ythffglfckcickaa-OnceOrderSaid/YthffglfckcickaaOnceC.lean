/- A cell's filling: fill, doSlow, Do, Get. -/
import Derived.Test.YthffglfckcickaaOnceB
import Derived.Laws.EntriesVeiled
namespace Go.Proofs.Ythffglfckcickaa
open Go.RowKit

/-- A make that gives l, called in the middle of a filling. -/
def Gives (T : World → World → List Int → Prop) (K : FuncId) (cap : Array Value) (w : World) (g : Nat) (d s : Int) : Prop :=
  ∀ w1, Touch [g] w w1 → Cel w1 g d s 1 .nilFunc nilS →
    Calls Try.prog K cap w1 fun e w2 => ∃ A n c l, e = .returned (.slice A n c) ∧ Rd w2 w2.heap.size A c 1 n (is l) ∧ l.length ≤ 1000 ∧ Cel w2 g d s 1 .nilFunc nilS ∧ T w1 w2 l
/-- A make that panics. -/
def Falls (T : World → World → List Int → Prop) (K : FuncId) (cap : Array Value) (ch : List PanicEntry) (w : World) (g : Nat) (d s : Int) : Prop :=
  ∀ w1, Touch [g] w w1 → Cel w1 g d s 1 .nilFunc nilS →
    Calls Try.prog K cap w1 fun e w2 => e = .panicked ch ∧ Cel w2 g d s 1 .nilFunc nilS ∧ T w1 w2 []
/-- The function can be called. -/
def Callable (K : FuncId) (cap : Array Value) : Prop := ∀ w : World, (callFunc K cap).run Try.prog w = .ok (.enter K cap) w

theorem fill_nil (w : World) (g : Nat) (d s : Int) (h : Cel w g d s 0 .nilFunc nilS) (T : World → World → List Int → Prop) (hT : ∀ w1, T w1 w1 []) :
    Calls Try.prog 21 #[.pointer (some ⟨g, 0, none⟩)] w fun e w' => e = .returned (.tuple #[]) ∧ Filled T w g d s w' := by
  have hc := Blk.cell h (i := 3) rfl
  have hz := Blk.free h 3
  have hne := make_neq
  have hne0 := make_neq_nil
  go_enter Try.func21, Try.ntmps21
  go_wp2_with fail
  refine (bStore ⟨g, 3, none⟩ _ w hc hz).mono ?_
  rintro e w1 ⟨rfl, hw⟩
  have t1 : Touch [g] w w1 := by rw [hw]; exact (Touch.refl _ _).drew.cell (by simp) _ _
  have C1 : Cel w1 g d s 1 .nilFunc nilS := by rw [hw]; exact Cel.mk_asked (Blk.drew h) 1
  clear hw hc hz
  have hc4 := Blk.cell C1 (i := 4) rfl
  have hz4 := Blk.free C1 4
  have C2 := C1.mk_make .nilFunc
  go_wp2_with fail
  go_end0
  exact ⟨rfl, _, _, [], none, 0, 0, t1.cell (by simp) _ _, hT _, Touch.refl _ _, C2, World.ownsRow_nil _ _ _ _, by simp⟩

theorem fill_c (w : World) (g : Nat) (d s : Int) (K : FuncId) (cap : Array Value) (h : Cel w g d s 0 (.func (.func K) #[] cap) nilS) (hin : Callable K cap) (T : World → World → List Int → Prop) (hF : Gives T K cap w g d s) :
    Calls Try.prog 21 #[.pointer (some ⟨g, 0, none⟩)] w fun e w' => e = .returned (.tuple #[]) ∧ Filled T w g d s w' := by
  have hc := Blk.cell h (i := 3) rfl
  have hz := Blk.free h 3
  have hin' : ∀ w : World, (callFunc K cap).run Try.prog w = .ok (.enter K cap) w := hin
  have hne := make_neq
  have hne0 := make_neq_nil
  go_enter Try.func21, Try.ntmps21
  go_wp2_with fail
  refine (bStore ⟨g, 3, none⟩ _ w hc hz).mono ?_
  rintro e w1 ⟨rfl, hw⟩
  have t1 : Touch [g] w w1 := by rw [hw]; exact (Touch.refl _ _).drew.cell (by simp) _ _
  have C1 : Cel w1 g d s 1 (.func (.func K) #[] cap) nilS := by rw [hw]; exact Cel.mk_asked (Blk.drew h) 1
  clear hw hc hz
  have hc4 := Blk.cell C1 (i := 4) rfl
  have hz4 := Blk.free C1 4
  have C2 := C1.mk_make .nilFunc
  have t2 : Touch [g] w (w1.setCell ⟨g, 4, none⟩ .nilFunc) := t1.cell (by simp) _ _
  go_wp2_with fail
  refine (hF _ t2 C2).mono ?_
  rintro e w3 ⟨A, n, c, l, rfl, hr, hn, C3, hT⟩
  go_wp2_with fail
  refine (Clone_c w3 _ A c n l hr hn).mono ?_
  rintro e w4 ⟨A', c', rfl, hown, hb⟩
  have C4 := C3.past hb
  have hc5 := Blk.cell C4 (i := 5) rfl
  have hz5 := Blk.free C4 5
  have C5 := C4.mk_made (.slice A' n c')
  go_wp2_with fail
  go_end0
  exact ⟨rfl, _, _, l, A', n, c', t2, hT, (Touch.of_below hb).cell (by simp) _ _, C5, own_touch hown (Touch.of_grown (grown_set _ g _ _)) C4.no2, hn⟩

theorem fill_p (w : World) (g : Nat) (d s : Int) (K : FuncId) (cap : Array Value) (ch : List PanicEntry) (h : Cel w g d s 0 (.func (.func K) #[] cap) nilS) (hin : Callable K cap) (T : World → World → List Int → Prop) (hF : Falls T K cap ch w g d s) :
    Calls Try.prog 21 #[.pointer (some ⟨g, 0, none⟩)] w fun e w' => e = .panicked ch ∧ Filled T w g d s w' := by
  have hc := Blk.cell h (i := 3) rfl
  have hz := Blk.free h 3
  have hin' : ∀ w : World, (callFunc K cap).run Try.prog w = .ok (.enter K cap) w := hin
  have hne := make_neq
  have hne0 := make_neq_nil
  go_enter Try.func21, Try.ntmps21
  go_wp2_with fail
  refine (bStore ⟨g, 3, none⟩ _ w hc hz).mono ?_
  rintro e w1 ⟨rfl, hw⟩
  have t1 : Touch [g] w w1 := by rw [hw]; exact (Touch.refl _ _).drew.cell (by simp) _ _
  have C1 : Cel w1 g d s 1 (.func (.func K) #[] cap) nilS := by rw [hw]; exact Cel.mk_asked (Blk.drew h) 1
  clear hw hc hz
  have hc4 := Blk.cell C1 (i := 4) rfl
  have hz4 := Blk.free C1 4
  have C2 := C1.mk_make .nilFunc
  have t2 : Touch [g] w (w1.setCell ⟨g, 4, none⟩ .nilFunc) := t1.cell (by simp) _ _
  go_wp2_with fail
  refine (hF _ t2 C2).mono ?_
  rintro e w3 ⟨rfl, C3, hT⟩
  exact ⟨rfl, rfl, _, _, [], none, 0, 0, t2, hT, Touch.refl _ _, C3, World.ownsRow_nil _ _ _ _, by simp⟩
end Go.Proofs.Ythffglfckcickaa
