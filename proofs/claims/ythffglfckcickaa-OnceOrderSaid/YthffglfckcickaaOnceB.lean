/- A cell of package once: New, Done, Clone, fill, doSlow, Do, Get. -/
import Derived.Test.YthffglfckcickaaOnceA
namespace Go.Proofs.Ythffglfckcickaa
open Go.RowKit

/-- The cell at block g: done, the lock's word, asked, make, made. -/
def Cel (w : World) (g : Nat) (d s k : Int) (f m : Value) : Prop := Blk w g 51 [.int .u32 d, .int .i32 s, .int .u32 0, .int .u32 k, f, m]
/-- What was filled: from w on, by a make that went from w1 to w2 and gave l. -/
def Filled (T : World → World → List Int → Prop) (w : World) (g : Nat) (d s : Int) (w' : World) : Prop :=
  ∃ w1 w2 l A n c, Touch [g] w w1 ∧ T w1 w2 l ∧ Touch [g] w2 w' ∧ Cel w' g d s 1 .nilFunc (.slice A n c) ∧ w'.ownsRow w2.heap.size 2 1 (.slice A n c) n (is l) ∧ l.length ≤ 1000
/-- A cell that keeps l. -/
def Made (B : Nat) (w : World) (g : Nat) (l : List Int) : Prop :=
  ∃ A n c, Cel w g 1 0 1 .nilFunc (.slice A n c) ∧ w.ownsRow B 2 1 (.slice A n c) n (is l) ∧ l.length ≤ 1000
abbrev nilS : Value := .slice none 0 0
theorem int64_info : (Try.prog.info? 2).map (fun i => (i.zero, i.size, i.bytes)) = some (some (.int .i64 0), 1, 8) := by kernel_rfl

theorem make_equalIn (d : Nat) (fn : Fn) (first cap : Array Value) (w : World) : (Op.equalIn (d + 1) 26 (.func fn first cap) .nilFunc).run Try.prog w = .ok false w := by
  simp [Op.equalIn, run_underlying Try.underlying26]
theorem make_equalIn_nil (d : Nat) (w : World) : (Op.equalIn (d + 1) 26 .nilFunc .nilFunc).run Try.prog w = .ok true w := by
  simp [Op.equalIn, run_underlying Try.underlying26]
theorem makeI_equalIn (d : Nat) (fn : Fn) (first cap : Array Value) (w : World) : (Op.equalIn (d + 1) 35 (.func fn first cap) .nilFunc).run Try.prog w = .ok false w := by
  simp [Op.equalIn, run_underlying Try.underlying35]
theorem make_neq (fn : Fn) (first cap : Array Value) (w : World) : (binOp .neq 26 (.func fn first cap) .nilFunc).run Try.prog w = .ok (.bool true) w := by
  simp only [binOp]
  simp [Op.equal, Op.maxDepth, make_equalIn 9999]
theorem make_neq_nil (w : World) : (binOp .neq 26 .nilFunc .nilFunc).run Try.prog w = .ok (.bool false) w := by
  simp only [binOp]
  simp [Op.equal, Op.maxDepth, make_equalIn_nil 9999]
theorem makeI_eql (fn : Fn) (first cap : Array Value) (w : World) : (binOp .eql 35 (.func fn first cap) .nilFunc).run Try.prog w = .ok (.bool false) w := by
  simp only [binOp]
  simp [Op.equal, Op.maxDepth, makeI_equalIn 9999]

section
variable {T : World → World → List Int → Prop} {w w' : World} {g B : Nat} {d s k : Int} {f m : Value} {l : List Int} {S : List Nat}
theorem Cel.touch (h : Cel w g d s k f m) (ht : Touch S w w') (hg : g ∉ S) : Cel w' g d s k f m := Blk.touch h ht hg
theorem Cel.past (h : Cel w g d s k f m) (hb : Below w.heap.size w w') : Cel w' g d s k f m := Blk.past h hb
theorem Cel.no2 (h : Cel w g d s k f m) : ∀ g' ∈ [g], ∀ ys, ¬ Blk w g' 2 ys := by
  intro g' hg ys hy
  obtain rfl : g' = g := by simpa using hg
  exact Blk.ne hy h (by decide) rfl
theorem Cel.mk_done (h : Cel w g d s k f m) (x : Int) : Cel (w.setCell ⟨g, 0, none⟩ (.int .u32 x)) g x s k f m := Blk.set h 0 _
theorem Cel.mk_lock (h : Cel w g d s k f m) (x : Int) : Cel (w.setCell ⟨g, 1, none⟩ (.int .i32 x)) g d x k f m := Blk.set h 1 _
theorem Cel.mk_asked (h : Cel w g d s k f m) (x : Int) : Cel (w.setCell ⟨g, 3, none⟩ (.int .u32 x)) g d s x f m := Blk.set h 3 _
theorem Cel.mk_make (h : Cel w g d s k f m) (x : Value) : Cel (w.setCell ⟨g, 4, none⟩ x) g d s k x m := Blk.set h 4 _
theorem Cel.mk_made (h : Cel w g d s k f m) (x : Value) : Cel (w.setCell ⟨g, 5, none⟩ x) g d s k f x := Blk.set h 5 _
theorem Made.lt (h : Made B w g l) : g < w.heap.size := by
  obtain ⟨A, n, c, h1, _⟩ := h
  exact Blk.lt h1
theorem Made.touch (h : Made B w g l) (ht : Touch S w w') (hg : g ∉ S) (hs : ∀ g ∈ S, ∀ ys, ¬ Blk w g 2 ys) : Made B w' g l := by
  obtain ⟨A, n, c, h1, h2, h3⟩ := h
  exact ⟨A, n, c, h1.touch ht hg, own_touch h2 ht hs, h3⟩
theorem Made.past (h : Made B w g l) (hb : Below w.heap.size w w') : Made B w' g l := by
  obtain ⟨A, n, c, h1, h2, h3⟩ := h
  exact ⟨A, n, c, h1.past hb, own_below h2 hb, h3⟩
theorem Made.base {B' : Nat} (h : Made B w g l) (hB : B' ≤ B) : Made B' w g l := by
  obtain ⟨A, n, c, h1, h2, h3⟩ := h
  exact ⟨A, n, c, h1, own_base h2 hB, h3⟩
theorem Filled.before {w0 : World} (h : Filled T w g d s w') (ht : Touch [g] w0 w) : Filled T w0 g d s w' := by
  obtain ⟨w1, w2, l, A, n, c, h1, h2, h3, h4⟩ := h
  exact ⟨w1, w2, l, A, n, c, ht.trans h1, h2, h3, h4⟩
theorem Filled.drew (h : Filled T w g d s w') : Filled T w g d s w'.drew := by
  obtain ⟨w1, w2, l, A, n, c, h1, h2, h3, h4, h5, h6⟩ := h
  exact ⟨w1, w2, l, A, n, c, h1, h2, h3.drew, h4, h5, h6⟩
theorem Filled.mk_done (h : Filled T w g d s w') (x : Int) : Filled T w g x s (w'.setCell ⟨g, 0, none⟩ (.int .u32 x)) := by
  obtain ⟨w1, w2, l, A, n, c, h1, h2, h3, h4, h5, h6⟩ := h
  exact ⟨w1, w2, l, A, n, c, h1, h2, h3.cell (by simp) _ _, h4.mk_done x, own_touch h5 (Touch.of_grown (grown_set _ g _ _)) h4.no2, h6⟩
theorem Filled.mk_lock (h : Filled T w g d s w') (x : Int) : Filled T w g d x (w'.setCell ⟨g, 1, none⟩ (.int .i32 x)) := by
  obtain ⟨w1, w2, l, A, n, c, h1, h2, h3, h4, h5, h6⟩ := h
  exact ⟨w1, w2, l, A, n, c, h1, h2, h3.cell (by simp) _ _, h4.mk_lock x, own_touch h5 (Touch.of_grown (grown_set _ g _ _)) h4.no2, h6⟩
theorem Filled.cell (h : Filled T w g d s w') : ∃ m, Cel w' g d s 1 .nilFunc m := by
  obtain ⟨w1, w2, l, A, n, c, h1, h2, h3, h4, h5, h6⟩ := h
  exact ⟨_, h4⟩
end

theorem New_c (w : World) (K : FuncId) (cap : Array Value) :
    Calls Try.prog 9 #[.func (.func K) #[] cap] w fun e w' => e = .returned (.pointer (some ⟨w.heap.size, 0, none⟩)) ∧ w' = w.alloc (.cells #[.int .u32 0, .int .i32 0, .int .u32 0, .int .u32 0, .func (.func K) #[] cap, .slice none 0 0] 51) := by
  go_enter Try.func9, Try.ntmps9
  go_wp2
  go_ret
  exact ⟨rfl, rfl⟩

theorem New_nil (w : World) :
    Calls Try.prog 9 #[.nilFunc] w fun e w' => e = .returned (.pointer (some ⟨w.heap.size, 0, none⟩)) ∧ w' = w.alloc (.cells #[.int .u32 0, .int .i32 0, .int .u32 0, .int .u32 0, .nilFunc, .slice none 0 0] 51) := by
  go_enter Try.func9, Try.ntmps9
  go_wp2
  go_ret
  exact ⟨rfl, rfl⟩

theorem Done_nil (w : World) :
    Calls Try.prog 11 #[.pointer none] w fun e w' => e = .returned (.bool false) ∧ w = w' := by
  go_enter Try.func11, Try.ntmps11
  go_wp2_with fail
  go_ret
  exact ⟨rfl, rfl⟩

theorem Done0_c (w : World) (g : Nat) (d s : Int) (f m : Value) (h : Cel w g d s 0 f m) :
    Calls Try.prog 11 #[.pointer (some ⟨g, 0, none⟩)] w fun e w' => e = .returned (.bool false) ∧ w = w' := by
  have hc := Blk.cell h (i := 3) rfl
  go_enter Try.func11, Try.ntmps11
  go_wp2_with fail
  refine (bLoad0 ⟨g, 3, none⟩ w hc).mono ?_
  rintro e w' ⟨rfl, rfl⟩
  go_wp2_with fail
  go_ret
  exact ⟨rfl, rfl⟩

theorem Done1_c (w : World) (g : Nat) (d s : Int) (f m : Value) (h : Cel w g d s 1 f m) :
    Calls Try.prog 11 #[.pointer (some ⟨g, 0, none⟩)] w fun e w' => e = .returned (.bool true) ∧ w = w' := by
  have hc := Blk.cell h (i := 3) rfl
  go_enter Try.func11, Try.ntmps11
  go_wp2_with fail
  refine (bLoad1 ⟨g, 3, none⟩ w hc).mono ?_
  rintro e w' ⟨rfl, rfl⟩
  go_wp2_with fail
  go_ret
  exact ⟨rfl, rfl⟩

theorem Clone_c (w : World) (B : Nat) (A : Option Addr) (c n : Nat) (l : List Int) (h : Rd w B A c 1 n (is l)) (hn : l.length ≤ 1000) :
    Calls Try.prog 22 #[.slice A n c] w fun e w' => ∃ A' c', e = .returned (.slice A' n c') ∧ w'.ownsRow w.heap.size 2 1 (.slice A' n c') n (is l) ∧ Below w.heap.size w w' := by
  have hl := h.ilen
  cases A with
  | none =>
    have hc := h.2.2.2.1 rfl
    have hle := h.le
    have h0 : n = 0 := by omega
    subst h0
    subst hc
    have e0 : l = [] := List.eq_nil_of_length_eq_zero hl
    subst e0
    clear h hl hle
    have hnil : ∀ W, (binOp .eql 22 (.slice none 0 0) (.slice none 0 0)).run Try.prog W = .ok (.bool true) W := fun W => by rw [run_eql_nil_slice W _ _ none 0 0 0 0 Try.underlying22]; rfl
    go_enter Try.func22, Try.ntmps22
    go_wp2_with fail
    go_ret
    exact ⟨none, 0, rfl, World.ownsRow_nil _ _ _ _, Below.refl _ _⟩
  | some ad =>
    have hr := h.alloc (.cells #[] 2)
    have hown0 := World.ownsRow_lit (base := w.heap.size) (e := 2) (size := 1) w #[] 0 (Nat.le_refl _) (by simp [maxLen]) rfl
    have hb0 : Below w.heap.size w (w.alloc (.cells #[] 2)) := (Below.refl _ _).alloc (Nat.le_refl _) _
    have HL := Lib.hid hl; clear hl
    have hnil : ∀ W, (binOp .eql 22 (.slice (some ad) n c) (.slice none 0 0)).run Try.prog W = .ok (.bool false) W := fun W => Lib.run_eql_slice_nil W _ _ (some ad) n c 0 0 Try.underlying22
    go_enter Try.func22, Try.ntmps22
    go_wp2_with (at_builtin; go_must (refine wpList_app rfl (.tmp 5) (.tmp 6) _ rfl w.heap.size 2 _ 1 8 Try.underlying22 int64_info rfl (by omega) _ 0 [] rfl hown0 B (some ad) c n (is l) rfl hr (is_one l) ?c1 ?c2 hb0.size ?_))
    case c1 => have := HL.out; unfold maxLen; omega
    case c2 => have := HL.out; omega
    intro A' c' w1 hown1 hgrow1 hbel1
    have hown1' : w1.ownsRow w.heap.size 2 1 (.slice A' n c') n (is l) := by simpa using hown1
    clear hown1
    have e1 : (0 + n) = n := by omega
    try rw [e1]
    go_wp2_with fail
    go_ret
    exact ⟨A', c', rfl, hown1', hb0.trans hbel1⟩
end Go.Proofs.Ythffglfckcickaa
