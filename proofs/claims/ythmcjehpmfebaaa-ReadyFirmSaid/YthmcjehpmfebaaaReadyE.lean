/- Contracts of wasHeld, levelLets, orderLets, untold.add, least. -/
import Derived.Test.YthmcjehpmfebaaaReadyD
namespace Go.Proofs.Ythmcjehpmfebaaa
open Go.RowKit PReady

def uv (u : Fl) : Value := .agg #[.bool u.so, .bool u.tot, .bool u.tim]
def ucs (u : Fl) : List Value := [.bool u.so, .bool u.tot, .bool u.tim]
theorem wasHeld_c (w : World) (s now : Int) (hs : -9223372036854775808 ≤ s ∧ s ≤ 9223372036854775807) :
    Calls Try.prog 37 #[.int .i64 s, .int .i64 now] w fun x w' => x = .returned (.bool (held s now)) ∧ w = w' := by
  obtain ⟨hs1, hs2⟩ := hs
  by_cases h1 : s ≤ 9223372036854775804
  · by_cases h2 : s + 3 ≤ now
    · have HR := Lib.hid (show held s now = true by simp [held, h1, h2])
      go_enter Try.func37, Try.ntmps37
      go_wp2_with fail
      go_ret
      exact ⟨by rw [HR.out]; rfl, rfl⟩
    · have HR := Lib.hid (show held s now = false by simp [held, h2])
      go_enter Try.func37, Try.ntmps37
      go_wp2_with fail
      go_ret
      exact ⟨by rw [HR.out]; rfl, rfl⟩
  · have HR := Lib.hid (show held s now = false by simp [held, h1])
    go_enter Try.func37, Try.ntmps37
    go_wp2_with fail
    go_ret
    exact ⟨by rw [HR.out]; rfl, rfl⟩

set_option maxHeartbeats 2000000 in
set_option maxRecDepth 100000 in
theorem levelLets_c (w : World) (l at' commit : Int) (u : Fl) :
    Calls Try.prog 34 #[.int .i64 l, .int .i64 at', .int .i64 commit, uv u] w fun x w' => x = .returned (.bool (level u at' commit l)) ∧ Below w.heap.size w w' := by
  have B0 := Lib.hid ((Below.refl w.heap.size w).alloc (Nat.le_refl _) (.cells #[.bool u.so, .bool u.tot, .bool u.tim] 72))
  have K := Blk.new w #[.bool u.so, .bool u.tot, .bool u.tim] 72
  have d0 := K.cell (i := 0) rfl
  clear K
  by_cases h0 : l = 0
  · have HR := Lib.hid (show level u at' commit l = true by simp [level, h0])
    subst h0
    show Calls _ _ #[_, _, _, .agg #[.bool u.so, .bool u.tot, .bool u.tim]] _ _
    go_enter Try.func34, Try.ntmps34
    go_wp2_with fail
    go_ret
    exact ⟨by rw [HR.out]; rfl, B0.out⟩
  have e0 : (l == 0) = false := by simpa using h0
  by_cases h1 : l = 1
  · subst h1
    by_cases hc : at' ≤ commit
    · have HR := Lib.hid (show level u at' commit 1 = true by simp [level, hc])
      show Calls _ _ #[_, _, _, .agg #[.bool u.so, .bool u.tot, .bool u.tim]] _ _
      go_enter Try.func34, Try.ntmps34
      go_wp2_with fail
      go_ret
      exact ⟨by rw [HR.out]; simp, B0.out⟩
    · have HR := Lib.hid (show level u at' commit 1 = false by simp [level, hc])
      have hc' : ¬ commit ≥ at' := by omega
      show Calls _ _ #[_, _, _, .agg #[.bool u.so, .bool u.tot, .bool u.tim]] _ _
      go_enter Try.func34, Try.ntmps34
      go_wp2_with fail
      go_ret
      exact ⟨by rw [HR.out]; simp, B0.out⟩
  have e1 : (l == 1) = false := by simpa using h1
  by_cases h2 : l = 2
  · subst h2
    by_cases hc : at' ≤ commit
    · have hc' : commit ≥ at' := hc
      cases hu : u.so
      · have HR := Lib.hid (show level u at' commit 2 = true by simp [level, hc, hu])
        rw [hu] at d0
        show Calls _ _ #[_, _, _, .agg #[.bool u.so, .bool u.tot, .bool u.tim]] _ _
        rw [hu]
        go_enter Try.func34, Try.ntmps34
        go_wp2_with fail
        go_ret
        exact ⟨by rw [HR.out]; rfl, by have := B0.out; rw [hu] at this; exact this⟩
      · have HR := Lib.hid (show level u at' commit 2 = false by simp [level, hu])
        rw [hu] at d0
        show Calls _ _ #[_, _, _, .agg #[.bool u.so, .bool u.tot, .bool u.tim]] _ _
        rw [hu]
        go_enter Try.func34, Try.ntmps34
        go_wp2_with fail
        go_ret
        exact ⟨by rw [HR.out]; rfl, by have := B0.out; rw [hu] at this; exact this⟩
    · have HR := Lib.hid (show level u at' commit 2 = false by simp [level, hc])
      have hc' : ¬ commit ≥ at' := by omega
      show Calls _ _ #[_, _, _, .agg #[.bool u.so, .bool u.tot, .bool u.tim]] _ _
      go_enter Try.func34, Try.ntmps34
      go_wp2_with fail
      go_ret
      exact ⟨by rw [HR.out]; rfl, B0.out⟩
  have e2 : (l == 2) = false := by simpa using h2
  have HR := Lib.hid (show level u at' commit l = false by simp [level, h0, h1, h2])
  show Calls _ _ #[_, _, _, .agg #[.bool u.so, .bool u.tot, .bool u.tim]] _ _
  go_enter Try.func34, Try.ntmps34
  go_wp2_with fail
  go_ret
  exact ⟨by rw [HR.out]; rfl, B0.out⟩

set_option maxHeartbeats 2000000 in
set_option maxRecDepth 100000 in
theorem orderLets_c (w : World) (e : Ent) (now : Int) (u : Fl) (hf : PEnt.Fit e) :
    Calls Try.prog 35 #[ev e, .int .i64 now, uv u] w fun x w' => x = .returned (.bool (order u now e.ord e.stamp)) ∧ Below w.heap.size w w' := by
  obtain ⟨fr, boot, seq, ord, lev, stamp, data⟩ := e
  obtain ⟨so, tot, tim⟩ := u
  have HS := Lib.hid hf.f5
  have B0 := (Below.refl w.heap.size w).alloc (Nat.le_refl _) (.cells #[.int .i64 fr, .int .i64 boot, .int .i64 seq, .int .i64 ord, .int .i64 lev, .int .i64 stamp, .string data] 39)
  have K0 := Blk.newEnt w 39 ⟨fr, boot, seq, ord, lev, stamp, data⟩
  have K := Blk.new (w.alloc (.cells #[.int .i64 fr, .int .i64 boot, .int .i64 seq, .int .i64 ord, .int .i64 lev, .int .i64 stamp, .string data] 39)) #[.bool so, .bool tot, .bool tim] 72
  have K1 := K0.alloc (.cells #[.bool so, .bool tot, .bool tim] 72)
  have B1 := Lib.hid (B0.alloc B0.size (.cells #[.bool so, .bool tot, .bool tim] 72))
  rw [show (w.alloc (.cells #[.int .i64 fr, .int .i64 boot, .int .i64 seq, .int .i64 ord, .int .i64 lev, .int .i64 stamp, .string data] 39)).heap.size = w.heap.size + 1 by simp] at K
  clear B0 hf K0
  show Calls _ _ #[.agg #[.int .i64 fr, .int .i64 boot, .int .i64 seq, .int .i64 ord, .int .i64 lev, .int .i64 stamp, .string data], _, .agg #[.bool so, .bool tot, .bool tim]] _ _
  by_cases h0 : ord = 0
  · have HR := Lib.hid (show order ⟨so, tot, tim⟩ now ord stamp = true by simp [order, h0])
    subst h0
    clear K K1
    go_enter Try.func35, Try.ntmps35
    go_wp2_with fail
    go_ret
    exact ⟨by rw [HR.out]; rfl, B1.out⟩
  have e0 : (ord == 0) = false := by simpa using h0
  by_cases h1 : ord = 1
  · have HR := Lib.hid (show order ⟨so, tot, tim⟩ now ord stamp = !tot by simp [order, h1])
    subst h1
    clear K K1
    go_enter Try.func35, Try.ntmps35
    go_wp2_with fail
    go_ret
    exact ⟨by rw [HR.out]; rfl, B1.out⟩
  have e1 : (ord == 1) = false := by simpa using h1
  by_cases h2 : ord = 2
  · have HR := Lib.hid (show order ⟨so, tot, tim⟩ now ord stamp = (held stamp now && !tim) by simp [order, h2])
    subst h2
    go_enter Try.func35, Try.ntmps35
    go_wp2_with fail
    generalize ((w.alloc (.cells #[.int .i64 fr, .int .i64 boot, .int .i64 seq, .int .i64 2, .int .i64 lev, .int .i64 stamp, .string data] 39)).alloc (.cells #[.bool so, .bool tot, .bool tim] 72)) = w2 at *
    refine (wasHeld_c w2 stamp now HS.out).mono ?_
    cases hh : held stamp now
    · rw [hh] at HR
      rintro x w3 ⟨rfl, rfl⟩
      clear hh K K1
      go_wp2_with fail
      go_ret
      exact ⟨by rw [HR.out]; rfl, B1.out⟩
    · rw [hh] at HR
      have d2 := K.cell (i := 2) rfl
      rintro x w3 ⟨rfl, rfl⟩
      clear hh K K1
      go_wp2_with fail
      go_ret
      exact ⟨by rw [HR.out]; simp, B1.out⟩
  have e2 : (ord == 2) = false := by simpa using h2
  have HR := Lib.hid (show order ⟨so, tot, tim⟩ now ord stamp = false by simp [order, h0, h1, h2])
  clear K K1
  go_enter Try.func35, Try.ntmps35
  go_wp2_with fail
  go_ret
  exact ⟨by rw [HR.out]; rfl, B1.out⟩

def W3 (w : World) (g : Nat) (a b : Bool) : World := ((w.setCell ⟨g, 0, none⟩ (.bool true)).setCell ⟨g, 1, none⟩ (.bool a)).setCell ⟨g, 2, none⟩ (.bool b)
theorem W3.blk {w : World} {g : Nat} {u : Fl} {t : TypeId} (h : Blk w g t (ucs u)) (a b : Bool) : Blk (W3 w g a b) g t [.bool true, .bool a, .bool b] := by
  have := ((h.set 0 (.bool true)).set 1 (.bool a)).set 2 (.bool b)
  unfold W3
  simpa [ucs] using this
theorem W3.grown (w : World) (g : Nat) (a b : Bool) : w.grownBy (W3 w g a b) (some g) := ((grown_set _ _ _ _).trans (grown_set _ _ _ _)).trans (grown_set _ _ _ _)
set_option maxHeartbeats 2000000 in
set_option maxRecDepth 100000 in
theorem add_c (w : World) (g : Nat) (u : Fl) (h : Blk w g 72 (ucs u)) (o : Int) :
    Calls Try.prog 36 #[.pointer (some ⟨g, 0, none⟩), .int .i64 o] w fun x w' => x = .returned (.tuple #[]) ∧ w' = W3 w g (u.add o).tot (u.add o).tim := by
  obtain ⟨so, tot, tim⟩ := u
  have d0 := h.cell (i := 0) rfl
  have d1 := h.cell (i := 1) rfl
  have d2 := h.cell (i := 2) rfl
  have f0 := h.free 0
  have f1 := h.free 1
  have f2 := h.free 2
  clear h
  have fin : ∀ a b : Bool, (tot || decide (o = 1)) = a → (tim || decide (o = 2)) = b → W3 w g a b = W3 w g (Fl.add ⟨so, tot, tim⟩ o).tot (Fl.add ⟨so, tot, tim⟩ o).tim := by
    rintro a b rfl rfl; rfl
  have FIN := Lib.hid fin
  clear fin
  cases tot <;> cases tim
  all_goals
    by_cases h1 : o = 1
    · subst h1
      go_enter Try.func36, Try.ntmps36
      go_wp2_with fail
      go_end0
      exact ⟨rfl, FIN.out _ _ rfl rfl⟩
    · have e1 : (o == 1) = false := by simpa using h1
      by_cases h2 : o = 2
      · subst h2
        go_enter Try.func36, Try.ntmps36
        go_wp2_with fail
        go_end0
        exact ⟨rfl, FIN.out _ _ rfl rfl⟩
      · have e2 : (o == 2) = false := by simpa using h2
        have FX := Lib.hid (FIN.out _ _ rfl rfl)
        simp only [h1, h2, decide_false, Bool.or_false] at FX
        go_enter Try.func36, Try.ntmps36
        go_wp2_with fail
        go_end0
        exact ⟨rfl, FX.out⟩
end Go.Proofs.Ythmcjehpmfebaaa
