/- The walk of OncePanics. -/
import Derived.Test.YthffglfckcickaaLaw6A
import Derived.Recover
namespace Go.Proofs.Ythffglfckcickaa
open Go.RowKit

/-- What the make panics with. -/
abbrev noV : Value := .iface 9 (.string { data := #[110, 111] })

theorem panics1_c (w : World) (nb : Nat) (x : Int) (h : Blk w nb 3 [.int .i64 x]) (h1 : 0 ≤ x) (h2 : x ≤ 1000) :
    Calls Try.prog 13 #[.pointer (some ⟨nb, 0, none⟩)] w fun e w' => e = .panicked [{ v := noV, recovered := false }] ∧ Touch [nb] w w' ∧ Blk w' nb 3 [.int .i64 (x + 1)] := by
  have hc := Blk.cell h (i := 0) rfl
  have hz := Blk.free h 0
  have hset := Blk.set h 0 (.int .i64 (x + 1))
  have t1 : Touch [nb] w (w.setCell ⟨nb, 0, none⟩ (.int .i64 (x + 1))) := (Touch.refl _ _).cell (by simp) _ _
  go_enter Try.func13, Try.ntmps13
  go_wp2
  exact ⟨rfl, rfl, t1, hset⟩

theorem catch_p (pl pb : Addr) (xl xb : Value) (u : TypeId) (pv : Value) (older : List PanicEntry) (w : World) (hl : w.cell? pl = some xl) (hlz : w.frozen? pl = false) (hb : w.cell? pb = some xb) (hbz : w.frozen? pb = false) (hne : pl ≠ pb) :
    CallsD Try.prog 23 #[.pointer (some pl), .pointer (some pb)] (.panicking ({ v := .iface u pv, recovered := false } :: older)) w fun e u' w' =>
      e = .returned (.tuple #[]) ∧ u' = .panicking ({ v := .iface u pv, recovered := true } :: older) ∧ w' = (w.setCell pl (.slice none 0 0)).setCell pb (.bool false) := by
  have hb2 : (w.setCell pl (.slice none 0 0)).cell? pb = some xb := (World.cell?_setCell_other _ _ _ _ hne).trans hb
  refine callsD_of_wpS Try.func23 rfl fun c₀ cs hu => ?_
  apply wpS_seq
  apply wpS_region
  simp [wpOpsS, go_sem, recoverD, hu, Try.ntmps23, Exit.thenS]
  refine wpS_cond (t := true) (by simp [Act.eval, Array.replicate]) ?_
  simp only [if_true]
  apply wpS_region
  simp [wpOpsS, go_sem, hl, hlz, hb2, hbz, bodyPostS, results, Try.results23]

theorem catch_idle (pl pb : Addr) (w : World) :
    CallsD Try.prog 23 #[.pointer (some pl), .pointer (some pb)] .returning w fun e u' w' => e = .returned (.tuple #[]) ∧ u' = .returning ∧ w' = w := by
  refine callsD_of_wpS Try.func23 rfl fun c₀ cs hu => ?_
  apply wpS_seq
  apply wpS_region
  simp [wpOpsS, go_sem, recoverD, hu, Try.ntmps23, Exit.thenS]
  refine wpS_cond (t := false) (by simp [Act.eval, Array.replicate]) ?_
  simp only [Bool.false_eq_true, if_false]
  refine wpS_of_wp (wp_skip ?_)
  cases c₀
  simp_all [bodyPostS, results, Try.results23]

theorem Touch.new {S : List Nat} {a w : World} (h : Touch S a w) {p : Nat} (hp : a.heap.size ≤ p) (i : Nat) (v : Value) : Touch S a (w.setCell ⟨p, i, none⟩ v) :=
  ⟨h.os, h.tape, h.output, by simpa [World.setCell] using h.size, fun k hk hn => (Below.heap_setCell _ _ _ _ (by show k ≠ p; omega)).trans (h.block k hk hn)⟩

theorem no2_one {w : World} {g : Nat} {e : TypeId} {xs : List Value} (h : Blk w g e xs) (he : e ≠ 2) : ∀ g' ∈ [g], ∀ ys, ¬ Blk w g' 2 ys := by
  intro q hq ys hy
  obtain rfl : q = g := by simpa using hq
  exact Blk.ne h hy he rfl

set_option maxRecDepth 100000 in
theorem gets_first (w : World) (g nb : Nat) (hC : Cel w g 0 0 0 (.func (.func 13) #[] #[.pointer (some ⟨nb, 0, none⟩)]) nilS) (hN : Blk w nb 3 [.int .i64 0]) (hn : g ≠ nb) :
    Calls Try.prog 14 #[.pointer (some ⟨g, 0, none⟩)] w fun e w' => e = .returned (.tuple #[.slice none 0 0, .bool false]) ∧ Touch [g, nb] w w' ∧ Made w.heap.size w' g [] ∧ Blk w' nb 3 [.int .i64 1] := by
  have hmf : ∀ (fn : Fn) (first cap : Array Value) (w : World), (Instr.makeFunc fn first cap).run Try.prog w = .ok (.func fn first cap) w := fun _ _ _ _ => rfl
  go_enter_defers Try.func14, Try.ntmps14
  go_wp2_with fail
  have hg := Blk.lt hC
  have hnl := hN.lt
  have R1 : Blk _ _ 22 [.slice none 0 0] := (Blk.new w #[.slice none 0 0] 22).alloc (.cells #[.bool false] 4)
  have R2 : Blk _ _ 4 [.bool false] := Blk.new (w.alloc (.cells #[.slice none 0 0] 22)) #[.bool false] 4
  have hs : (w.alloc (.cells #[.slice none 0 0] 22)).heap.size = w.heap.size + 1 := by simp
  rw [hs] at R2
  have hb : Below w.heap.size w ((w.alloc (.cells #[.slice none 0 0] 22)).alloc (.cells #[.bool false] 4)) := ((Below.refl _ _).alloc (Nat.le_refl _) _).alloc (by rw [hs]; omega) _
  clear hs
  generalize (w.alloc (.cells #[.slice none 0 0] 22)).alloc (.cells #[.bool false] 4) = w1 at *
  have C1 := hC.past hb
  have N1 := hN.past hb
  refine (Get_falls_counted w1 g nb 3 [.int .i64 (0 + 1)] _ _ noV C1 hn (callable_of Try.func13 (by kernel_rfl) rfl) (fun v1 t1 => panics1_c v1 nb 0 (N1.touch t1 (by simpa using hn.symm)) (by omega) (by omega))).mono ?_
  rintro e w2 ⟨rfl, t2, M2, N2⟩
  have S1 := R1.touch t2 (by simp; omega)
  have S2 := R2.touch t2 (by simp; omega)
  have T1 := S1.set 0 (.slice none 0 0)
  have T2 := (S2.touch (Touch.of_grown (grown_set w2 w.heap.size 0 (.slice none 0 0))) (by simp)).set 0 (.bool false)
  have T1' := T1.touch (Touch.of_grown (grown_set _ (w.heap.size + 1) 0 (.bool false))) (by simp)
  have t3 : Touch [g, nb] w ((w2.setCell ⟨w.heap.size, 0, none⟩ (.slice none 0 0)).setCell ⟨w.heap.size + 1, 0, none⟩ (.bool false)) := (((Touch.of_below hb).trans t2).new (Nat.le_refl _) _ _).new (by omega) _ _
  have S2' := S2.touch (Touch.of_grown (grown_set w2 w.heap.size 0 (.slice none 0 0))) (by simp)
  have M3 := M2.touch (Touch.of_grown (grown_set w2 w.heap.size 0 (.slice none 0 0))) (by simp; omega) (no2_one S1 (by decide))
  have M4 := M3.touch (Touch.of_grown (grown_set _ (w.heap.size + 1) 0 (.bool false))) (by simp; omega) (no2_one S2' (by decide))
  have N4 := (N2.touch (Touch.of_grown (grown_set w2 w.heap.size 0 (.slice none 0 0))) (by simp; omega)).touch (Touch.of_grown (grown_set _ (w.heap.size + 1) 0 (.bool false))) (by simp; omega)
  have hsz := hb.size
  refine leaves_cons (f := 23) (args := #[.pointer (some ⟨w.heap.size, 0, none⟩), .pointer (some ⟨w.heap.size + 1, 0, none⟩)]) (by simp) (by simp [go_sem]) ?_
  refine (catch_p ⟨w.heap.size, 0, none⟩ ⟨w.heap.size + 1, 0, none⟩ _ _ _ _ [] w2 (Blk.cell S1 (i := 0) rfl) (Blk.free S1 0) (Blk.cell S2 (i := 0) rfl) (Blk.free S2 0) (by simp)).mono ?_
  rintro e u' w3 ⟨rfl, rfl, hw⟩
  rw [← hw] at T1' T2 t3 M4 N4
  have hx1 := Blk.cell T1' (i := 0) rfl
  have hx2 := Blk.cell T2 (i := 0) rfl
  clear hw
  show Leaves _ _ _ _ [] .returning w3
  simp only [Leaves]
  simp [results, Try.results14, go_sem, hx1, hx2]
  exact ⟨t3, M4.base hsz, N4⟩

set_option maxRecDepth 100000 in
theorem gets_made (w : World) (B g : Nat) (hM : Made B w g []) :
    Calls Try.prog 14 #[.pointer (some ⟨g, 0, none⟩)] w fun e w' => ∃ A c, e = .returned (.tuple #[.slice A 0 c, .bool true]) ∧ Below w.heap.size w w' := by
  have hmf : ∀ (fn : Fn) (first cap : Array Value) (w : World), (Instr.makeFunc fn first cap).run Try.prog w = .ok (.func fn first cap) w := fun _ _ _ _ => rfl
  go_enter_defers Try.func14, Try.ntmps14
  go_wp2_with fail
  have R1 : Blk _ _ 22 [.slice none 0 0] := (Blk.new w #[.slice none 0 0] 22).alloc (.cells #[.bool false] 4)
  have R2 : Blk _ _ 4 [.bool false] := Blk.new (w.alloc (.cells #[.slice none 0 0] 22)) #[.bool false] 4
  have hs : (w.alloc (.cells #[.slice none 0 0] 22)).heap.size = w.heap.size + 1 := by simp
  rw [hs] at R2
  have hb : Below w.heap.size w ((w.alloc (.cells #[.slice none 0 0] 22)).alloc (.cells #[.bool false] 4)) := ((Below.refl _ _).alloc (Nat.le_refl _) _).alloc (by rw [hs]; omega) _
  clear hs
  generalize (w.alloc (.cells #[.slice none 0 0] 22)).alloc (.cells #[.bool false] 4) = w1 at *
  have M1 := hM.past hb
  refine (Get_made w1 B g [] M1).mono ?_
  rintro e w2 ⟨A, n, c, rfl, o, hb2⟩
  obtain rfl := own_len o
  have S1 := R1.past hb2
  have S2 := R2.past hb2
  have T1 := S1.set 0 (.slice A ([] : List Int).length c)
  have S2' := S2.touch (Touch.of_grown (grown_set w2 w.heap.size 0 (.slice A ([] : List Int).length c))) (by simp)
  have T2 := S2'.set 0 (.bool true)
  have T1' := T1.touch (Touch.of_grown (grown_set _ (w.heap.size + 1) 0 (.bool true))) (by simp)
  have hc1 := Blk.cell S1 (i := 0) rfl
  have hz1 := Blk.free S1 0
  have hc2 := Blk.cell S2 (i := 0) rfl
  have hz2 := Blk.free S2 0
  have hx1 := Blk.cell T1' (i := 0) rfl
  have hx2 := Blk.cell T2 (i := 0) rfl
  have hb3 : Below w.heap.size w ((w2.setCell ⟨w.heap.size, 0, none⟩ (.slice A ([] : List Int).length c)).setCell ⟨w.heap.size + 1, 0, none⟩ (.bool true)) := ((hb.trans (hb2.mono hb.size)).setCell (Nat.le_refl _) _).setCell (by show w.heap.size ≤ w.heap.size + 1; omega) _
  go_wp2_with fail
  refine leaves_cons (f := 23) (args := #[.pointer (some ⟨w.heap.size, 0, none⟩), .pointer (some ⟨w.heap.size + 1, 0, none⟩)]) (by simp) (by simp [go_sem]) ?_
  refine (catch_idle ⟨w.heap.size, 0, none⟩ ⟨w.heap.size + 1, 0, none⟩ _).mono ?_
  rintro e u' w3 ⟨rfl, rfl, hw⟩
  simp only [List.length_nil] at hw hx1 hx2 hb3
  rw [← hw] at hx1 hx2 hb3
  clear hw
  simp only [Leaves, settle]
  simp [results, Try.results14, go_sem, hx1, hx2]
  exact hb3

set_option maxHeartbeats 2000000 in
set_option maxRecDepth 100000 in
theorem OncePanics_w (w : World) (k0 : Int) :
    Calls Try.prog 4 #[.int .i64 k0] w fun e w' => e = .returned (.bool true) ∧ Below w.heap.size w w' := by
  have hmf : ∀ (fn : Fn) (first cap : Array Value) (w : World), (Instr.makeFunc fn first cap).run Try.prog w = .ok (.func fn first cap) w := fun _ _ _ _ => rfl
  have hnot : ∀ (x : Bool) (w : World), (Op.unary .not (.bool x)).run Try.prog w = .ok (.bool (!x)) w := fun _ _ => rfl
  go_enter Try.func4, Try.ntmps4
  go_wp2_with fail
  refine (begun_c _).mono ?_
  rintro e w3 ⟨rfl, hb3⟩
  have hsz3 := hb3.size
  by_cases k1 : k0 < 1
  · go_wp2_with fail
    go_ret
    exact ⟨rfl, hb3⟩
  by_cases k2 : 10 < k0
  · go_wp2_with fail
    go_ret
    exact ⟨rfl, hb3⟩
  obtain ⟨k, rfl⟩ : ∃ k : Nat, k0 = k := ⟨k0.toNat, by omega⟩
  go_wp2_with fail
  have hk20 : 1 ≤ k ∧ k ≤ 10 := by omega
  clear k1 k2
  have N5 : Blk _ _ 3 [.int .i64 0] := Blk.new w3 #[.int .i64 0] 3
  have hb5 := hb3.alloc hsz3 (.cells #[.int .i64 0] 3)
  have hs5 : (w3.alloc (.cells #[.int .i64 0] 3)).heap.size = w3.heap.size + 1 := by simp
  refine (New_k _ 13 _).mono ?_
  generalize w3.alloc (.cells #[.int .i64 0] 3) = w5 at *
  rintro e w6 ⟨rfl, C6, hb6, -⟩
  have q5 : w3.heap.size < w5.heap.size := by omega
  clear hs5
  have N6 := N5.past hb6
  have hsz5 := hb5.size
  have hb6' := hb5.trans (hb6.mono hsz5)
  go_wp2_with fail
  go_loopw [6] (fun s8 wr => ∃ i : Nat, i ≤ k ∧ s8 = .int .i64 i ∧ ((i = 0 ∧ Cel wr w5.heap.size 0 0 0 (.func (.func 13) #[] #[.pointer (some ⟨w3.heap.size, 0, none⟩)]) nilS ∧ Blk wr w3.heap.size 3 [.int .i64 0]) ∨ (0 < i ∧ Made w.heap.size wr w5.heap.size [] ∧ Blk wr w3.heap.size 3 [.int .i64 1])) ∧ Below w.heap.size w wr) (fun s8 _ => k - (intOf s8).toNat)
  case atStart => exact ⟨0, by omega, rfl, .inl ⟨rfl, C6, N6⟩, hb6'⟩
  case round =>
    clear hb5 N5 N6 C6 hb6' hb6 hb3
    obtain ⟨i, hi, rfl, hSt, hb⟩ := hrel
    have hszr := hb.size
    by_cases hik : i < k
    · rcases hSt with ⟨rfl, C, N⟩ | ⟨hi0, M, N⟩
      · go_wp2_with fail
        refine (gets_first wr _ _ C N (by omega)).mono ?_
        rintro e w7 ⟨rfl, t7, M7, N7⟩
        have hn7 := Blk.cell N7 (i := 0) rfl
        go_wp2_with fail
        go_roundw
        case rel => exact ⟨1, by omega, by go_num, .inr ⟨by omega, M7.base hszr, N7⟩, hb.trans (t7.below (by simp; omega) hszr)⟩
        case measure => simp [intOf]; omega
      · go_wp2_with fail
        refine (gets_made wr _ _ M).mono ?_
        rintro e w7 ⟨A, c, rfl, hb7⟩
        have M7 := M.past hb7
        have N7 := N.past hb7
        have hn7 := Blk.cell N7 (i := 0) rfl
        have hi0' : (0 : Int) < i := by omega
        go_wp2_with fail
        go_roundw
        case rel => exact ⟨i + 1, by omega, by go_num, .inr ⟨by omega, M7, N7⟩, hb.trans (hb7.mono hszr)⟩
        case measure => simp [intOf]; omega
    · obtain rfl : i = k := by omega
      obtain ⟨A, n, c, C, _⟩ : Made w.heap.size wr w5.heap.size [] := by
        rcases hSt with ⟨h0, _⟩ | ⟨_, M, _⟩
        · omega
        · exact M
      clear hSt
      go_wp2_with fail
      refine (Done1_c wr _ _ _ _ _ C).mono ?_
      rintro e w' ⟨rfl, rfl⟩
      go_wp2_with fail
      go_ret
      exact ⟨rfl, hb⟩
end Go.Proofs.Ythffglfckcickaa
