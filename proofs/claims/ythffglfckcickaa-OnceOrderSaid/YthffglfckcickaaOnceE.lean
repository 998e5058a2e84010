/- Get of a cell whose make writes one block (a counter) and gives a known list, or panics. -/
import Derived.Test.YthffglfckcickaaOnceD
import Derived.Test.YthffglfckcickaaHeld
namespace Go.Proofs.Ythffglfckcickaa
open Go.RowKit

theorem Gives.fills {T : World → World → List Int → Prop} {K : FuncId} {cap : Array Value} {w : World} {g : Nat} (hin : Callable K cap) (hF : Gives T K cap w g 0 1) :
    Fills (.returned (.tuple #[])) T (.func (.func K) #[] cap) w g := fun w1 t1 C1 => fill_c w1 g 0 1 K cap C1 hin T fun w2 t2 C2 => hF w2 (t1.trans t2) C2
theorem Falls.fills {T : World → World → List Int → Prop} {K : FuncId} {cap : Array Value} {ch : List PanicEntry} {w : World} {g : Nat} (hin : Callable K cap) (hF : Falls T K cap ch w g 0 1) :
    Fills (.panicked ch) T (.func (.func K) #[] cap) w g := fun w1 t1 C1 => fill_p w1 g 0 1 K cap ch C1 hin T fun w2 t2 C2 => hF w2 (t1.trans t2) C2

theorem Get_counted (w : World) (g nb : Nat) (en : TypeId) (zs : List Value) (K : FuncId) (cap : Array Value) (l : List Int) (hC : Cel w g 0 0 0 (.func (.func K) #[] cap) nilS) (hn : g ≠ nb) (hin : Callable K cap) (hl : l.length ≤ 1000)
    (hF : ∀ w1, Touch [g] w w1 → Calls Try.prog K cap w1 fun e w2 => ∃ A n c, e = .returned (.slice A n c) ∧ Rd w2 w2.heap.size A c 1 n (is l) ∧ Touch [nb] w1 w2 ∧ Blk w2 nb en zs) :
    Calls Try.prog 12 #[.pointer (some ⟨g, 0, none⟩)] w fun e w' => ∃ w3, Touch [g, nb] w w3 ∧ Made w.heap.size w3 g l ∧ Blk w3 nb en zs ∧ Hands w3 l e w' := by
  have hG : Gives (fun w1 w2 l' => l' = l ∧ Touch [nb] w1 w2 ∧ Blk w2 nb en zs) K cap w g 0 1 := fun w1 t1 C1 => (hF w1 t1).mono fun e w2 h => by
    obtain ⟨A, n, c, rfl, hr, t2, b2⟩ := h
    exact ⟨A, n, c, l, rfl, hr, hl, C1.touch t2 (by simpa using hn), rfl, t2, b2⟩
  refine (Get_first w g _ hC _ (hG.fills hin)).mono fun e w' h => ?_
  obtain ⟨w1, w2, w3, l', t1, ⟨rfl, t2, b2⟩, t3, hM, hH⟩ := h
  have t12 : Touch [g, nb] w w2 := (t1.wide (by simp)).trans (t2.wide (by simp))
  exact ⟨w3, t12.trans (t3.wide (by simp)), hM.base t12.size, b2.touch t3 (by simpa using hn.symm), hH⟩

theorem Get_falls_counted (w : World) (g nb : Nat) (en : TypeId) (zs : List Value) (K : FuncId) (cap : Array Value) (v : Value) (hC : Cel w g 0 0 0 (.func (.func K) #[] cap) nilS) (hn : g ≠ nb) (hin : Callable K cap)
    (hF : ∀ w1, Touch [g] w w1 → Calls Try.prog K cap w1 fun e w2 => e = .panicked [{ v := v, recovered := false }] ∧ Touch [nb] w1 w2 ∧ Blk w2 nb en zs) :
    Calls Try.prog 12 #[.pointer (some ⟨g, 0, none⟩)] w fun e w' => e = .panicked [{ v := v, recovered := false }] ∧ Touch [g, nb] w w' ∧ Made w.heap.size w' g [] ∧ Blk w' nb en zs := by
  have hG : Falls (fun w1 w2 l' => l' = [] ∧ Touch [nb] w1 w2 ∧ Blk w2 nb en zs) K cap [{ v := v, recovered := false }] w g 0 1 := fun w1 t1 C1 => (hF w1 t1).mono fun e w2 h => by
    obtain ⟨rfl, t2, b2⟩ := h
    exact ⟨rfl, C1.touch t2 (by simpa using hn), rfl, t2, b2⟩
  refine (Get_falls w g _ v hC _ (hG.fills hin)).mono fun e w' h => ?_
  obtain ⟨rfl, w1, w2, l, A, n, c, t1, ⟨rfl, t2, b2⟩, t3, C, hown, hl⟩ := h
  have t12 : Touch [g, nb] w w2 := (t1.wide (by simp)).trans (t2.wide (by simp))
  exact ⟨rfl, t12.trans (t3.wide (by simp)), ⟨A, n, c, C, own_base hown t12.size, hl⟩, b2.touch t3 (by simpa using hn.symm)⟩

theorem callable_of {K : FuncId} {cap : Array Value} {fn : Func} {b : Code} (hf : Try.prog.funcs[K]? = some fn) (hn : (fn.name == "runtime.NumGoroutine") = false) (hb : fn.body = some b) : Callable K cap := fun w => by
  have h1 : fn.name ≠ "runtime.NumGoroutine" := by simpa using hn
  simp [callFunc, hf, h1, hb]

theorem New_k (w : World) (K : FuncId) (cap : Array Value) :
    Calls Try.prog 9 #[.func (.func K) #[] cap] w fun e w' => e = .returned (.pointer (some ⟨w.heap.size, 0, none⟩)) ∧ Cel w' w.heap.size 0 0 0 (.func (.func K) #[] cap) nilS ∧ Below w.heap.size w w' ∧ w'.heap.size = w.heap.size + 1 := by
  refine (New_c w K cap).mono fun e w' h => ?_
  obtain ⟨rfl, rfl⟩ := h
  exact ⟨rfl, Blk.new w _ _, (Below.refl _ _).alloc (Nat.le_refl _) _, by simp⟩

/-- The numbers of what Get handed back. -/
theorem own_len {w : World} {base n c : Nat} {A : Option Addr} {l : List Int} (h : w.ownsRow base 2 1 (.slice A n c) n (is l)) : n = l.length := by
  have := h.1; rw [is_length] at this; omega
theorem own_at {w : World} {base n c : Nat} {A : Option Addr} {l : List Int} (h : w.ownsRow base 2 1 (.slice A n c) n (is l)) (hn : 0 < n) :
    ∃ gx, A = some ⟨gx, 0, none⟩ ∧ base ≤ gx ∧ gx < w.heap.size ∧ ∀ j, j < n → w.cell? ⟨gx, j, none⟩ = some (.int .i64 (l.getD j 0)) := by
  obtain ⟨gx, rfl, hb, hlt⟩ := own_some h hn
  refine ⟨gx, rfl, hb, hlt, fun j hj => ?_⟩
  have hl := own_len h
  rw [h.cellAt j (by omega)]
  simp [is, List.getD, List.getElem?_eq_getElem (show j < l.length by omega)]
end Go.Proofs.Ythffglfckcickaa
