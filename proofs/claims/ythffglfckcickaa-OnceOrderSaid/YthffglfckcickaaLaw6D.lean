/- The walk of OncePool: its parts. -/
import Derived.Test.YthffglfckcickaaPool
import Derived.Test.YthffglfckcickaaLaw6A
namespace Go.Proofs.Ythffglfckcickaa
open Go.RowKit

/-- Which cells were asked, as the variables of the statement. -/
def bl (f : Nat → Bool) : List Value := (List.range 64).map fun i => .bool (f i)
def ml (f : Nat → Bool) : List Value := (List.range 64).map fun i => .int .i64 (if f i then 1 else 0)
def upd (f : Nat → Bool) (k : Nat) : Nat → Bool := fun i => f i || decide (i = k)
theorem bl_at (f : Nat → Bool) {k : Nat} (hk : k < 64) : (bl f)[k]? = some (.bool (f k)) := by simp [bl, hk]
theorem ml_at (f : Nat → Bool) {k : Nat} (hk : k < 64) : (ml f)[k]? = some (.int .i64 (if f k then 1 else 0)) := by simp [ml, hk]
theorem bl_set (f : Nat → Bool) (k : Nat) : (bl f).set k (.bool true) = bl (upd f k) := by
  apply List.ext_getElem
  · simp [bl]
  · intro i h1 h2
    simp only [bl, upd, List.getElem_set, List.getElem_map, List.getElem_range]
    by_cases h : i = k
    · subst h; simp
    · have : ¬ k = i := fun e => h e.symm
      simp [h, this]
theorem ml_set (f : Nat → Bool) (k : Nat) : (ml f).set k (.int .i64 1) = ml (upd f k) := by
  apply List.ext_getElem
  · simp [ml]
  · intro i h1 h2
    simp only [ml, upd, List.getElem_set, List.getElem_map, List.getElem_range]
    by_cases h : i = k
    · subst h; simp
    · have : ¬ k = i := fun e => h e.symm
      simp [h, this]
theorem upd_same {f : Nat → Bool} {k : Nat} (h : f k = true) : upd f k = f := by
  funext i
  by_cases hi : i = k
  · subst hi; simp [upd, h]
  · simp [upd, hi]

theorem ml_zero : ml (fun _ => false) = [.int .i64 0, .int .i64 0, .int .i64 0, .int .i64 0, .int .i64 0, .int .i64 0, .int .i64 0, .int .i64 0, .int .i64 0, .int .i64 0, .int .i64 0, .int .i64 0, .int .i64 0, .int .i64 0, .int .i64 0, .int .i64 0, .int .i64 0, .int .i64 0, .int .i64 0, .int .i64 0, .int .i64 0, .int .i64 0, .int .i64 0, .int .i64 0, .int .i64 0, .int .i64 0, .int .i64 0, .int .i64 0, .int .i64 0, .int .i64 0, .int .i64 0, .int .i64 0, .int .i64 0, .int .i64 0, .int .i64 0, .int .i64 0, .int .i64 0, .int .i64 0, .int .i64 0, .int .i64 0, .int .i64 0, .int .i64 0, .int .i64 0, .int .i64 0, .int .i64 0, .int .i64 0, .int .i64 0, .int .i64 0, .int .i64 0, .int .i64 0, .int .i64 0, .int .i64 0, .int .i64 0, .int .i64 0, .int .i64 0, .int .i64 0, .int .i64 0, .int .i64 0, .int .i64 0, .int .i64 0, .int .i64 0, .int .i64 0, .int .i64 0, .int .i64 0] := by kernel_rfl
theorem bl_zero : bl (fun _ => false) = [.bool false, .bool false, .bool false, .bool false, .bool false, .bool false, .bool false, .bool false, .bool false, .bool false, .bool false, .bool false, .bool false, .bool false, .bool false, .bool false, .bool false, .bool false, .bool false, .bool false, .bool false, .bool false, .bool false, .bool false, .bool false, .bool false, .bool false, .bool false, .bool false, .bool false, .bool false, .bool false, .bool false, .bool false, .bool false, .bool false, .bool false, .bool false, .bool false, .bool false, .bool false, .bool false, .bool false, .bool false, .bool false, .bool false, .bool false, .bool false, .bool false, .bool false, .bool false, .bool false, .bool false, .bool false, .bool false, .bool false, .bool false, .bool false, .bool false, .bool false, .bool false, .bool false, .bool false, .bool false] := by kernel_rfl

theorem made_new (w : World) : Blk (w.alloc (.cells #[.int .i64 0, .int .i64 0, .int .i64 0, .int .i64 0, .int .i64 0, .int .i64 0, .int .i64 0, .int .i64 0, .int .i64 0, .int .i64 0, .int .i64 0, .int .i64 0, .int .i64 0, .int .i64 0, .int .i64 0, .int .i64 0, .int .i64 0, .int .i64 0, .int .i64 0, .int .i64 0, .int .i64 0, .int .i64 0, .int .i64 0, .int .i64 0, .int .i64 0, .int .i64 0, .int .i64 0, .int .i64 0, .int .i64 0, .int .i64 0, .int .i64 0, .int .i64 0, .int .i64 0, .int .i64 0, .int .i64 0, .int .i64 0, .int .i64 0, .int .i64 0, .int .i64 0, .int .i64 0, .int .i64 0, .int .i64 0, .int .i64 0, .int .i64 0, .int .i64 0, .int .i64 0, .int .i64 0, .int .i64 0, .int .i64 0, .int .i64 0, .int .i64 0, .int .i64 0, .int .i64 0, .int .i64 0, .int .i64 0, .int .i64 0, .int .i64 0, .int .i64 0, .int .i64 0, .int .i64 0, .int .i64 0, .int .i64 0, .int .i64 0, .int .i64 0] 32)) w.heap.size 32 (ml fun _ => false) := by
  rw [ml_zero]; exact Blk.new w _ _
theorem asked_new (w : World) : Blk (w.alloc (.cells #[.bool false, .bool false, .bool false, .bool false, .bool false, .bool false, .bool false, .bool false, .bool false, .bool false, .bool false, .bool false, .bool false, .bool false, .bool false, .bool false, .bool false, .bool false, .bool false, .bool false, .bool false, .bool false, .bool false, .bool false, .bool false, .bool false, .bool false, .bool false, .bool false, .bool false, .bool false, .bool false, .bool false, .bool false, .bool false, .bool false, .bool false, .bool false, .bool false, .bool false, .bool false, .bool false, .bool false, .bool false, .bool false, .bool false, .bool false, .bool false, .bool false, .bool false, .bool false, .bool false, .bool false, .bool false, .bool false, .bool false, .bool false, .bool false, .bool false, .bool false, .bool false, .bool false, .bool false, .bool false] 36)) w.heap.size 36 (bl fun _ => false) := by
  rw [bl_zero]; exact Blk.new w _ _

/-- The literal of 'only': it calls its make. -/
theorem only1_c (w : World) (bm bi : Nat) (K : FuncId) (cap : Array Value) (i : Int) (B1 : Blk w bm 35 [.func (.func K) #[] cap]) (B2 : Blk w bi 3 [.int .i64 i])
    (hin : ∀ w : World, (callFunc K (#[.int .i64 i] ++ cap)).run Try.prog w = .ok (.enter K (#[.int .i64 i] ++ cap)) w) (R : Ending → World → Prop)
    (hF : Calls Try.prog K (#[.int .i64 i] ++ cap) w fun e w' => (∃ v, e = .returned v) ∧ R e w') :
    Calls Try.prog 28 #[.pointer (some ⟨bm, 0, none⟩), .pointer (some ⟨bi, 0, none⟩)] w R := by
  have hc1 := Blk.cell B1 (i := 0) rfl
  have hc2 := Blk.cell B2 (i := 0) rfl
  go_enter Try.func28, Try.ntmps28
  go_wp2_with fail
  refine hF.mono ?_
  rintro e w' ⟨⟨v, rfl⟩, hR⟩
  go_wp2_with fail
  exact hR

theorem and63 {k : Nat} (hk : k < 64) : bits BinOp.and IntKind.i64 (k : Int) 63 = k := by
  have h : ∀ j, j < 64 → bits BinOp.and IntKind.i64 ((j : Nat) : Int) 63 = j := by decide +kernel
  exact h k hk

theorem mul63 {k : Nat} (hk : k < 64) : wrap64 ((k : Int) * k) = (k : Int) * k := by
  have h : ∀ j, j < 64 → wrap64 (((j : Nat) : Int) * (j : Nat)) = ((j : Nat) : Int) * (j : Nat) := by decide +kernel
  exact h k hk

theorem pool1_c (w : World) (mb : Nat) (f : Nat → Bool) (k : Nat) (hk : k < 64) (hf : f k = false) (h : Blk w mb 32 (ml f)) :
    Calls Try.prog 16 #[.int .i64 k, .pointer (some ⟨mb, 0, none⟩)] w fun e w' => ∃ A n c, e = .returned (.slice A n c) ∧ Rd w' w'.heap.size A c 1 n (is [(k : Int), k * k]) ∧ Touch [mb] w w' ∧ Blk w' mb 32 (ml (upd f k)) := by
  have hc := Blk.cell h (ml_at f hk)
  rw [hf] at hc
  simp only [Bool.false_eq_true, if_false] at hc
  have hz := Blk.free h k
  have hset := Blk.set h k (.int .i64 1)
  rw [ml_set] at hset
  have hand := and63 hk
  have hmul := mul63 hk
  have hr := Rd.new (w.setCell ⟨mb, k, none⟩ (.int .i64 1)) #[.int .i64 (k : Int), .int .i64 ((k : Int) * k)] 2 1 2 rfl (by simp [maxLen])
  have hsz : (w.setCell ⟨mb, k, none⟩ (.int .i64 1)).heap.size = w.heap.size := by simp [World.setCell]
  rw [hsz] at hr
  clear hsz
  have t1 : Touch [mb] w (w.setCell ⟨mb, k, none⟩ (.int .i64 1)) := (Touch.refl _ _).cell (by simp) _ _
  go_enter Try.func16, Try.ntmps16
  go_wp2
  go_ret
  exact ⟨_, _, _, rfl, hr.tight, t1.alloc _, hset.alloc _⟩

/-- The pool's cells: made where f says so. -/
def PoolSt (B : Nat) (mk : Value) (gs : List Nat) (f : Nat → Bool) (w : World) : Prop :=
  ∀ i g, gs[i]? = some g → if f i = true then Made B w g [(i : Int), i * i] else Seed B mk w g i
theorem PoolSt.past {B : Nat} {mk : Value} {gs : List Nat} {f : Nat → Bool} {w w' : World} (h : PoolSt B mk gs f w) (hb : Below w.heap.size w w') : PoolSt B mk gs f w' := fun i g hg => by
  have := h i g hg
  split
  · next hf => rw [if_pos hf] at this; exact this.past hb
  · next hf => rw [if_neg hf] at this; exact this.past hb
theorem PoolSt.touch {B : Nat} {mk : Value} {gs S : List Nat} {f : Nat → Bool} {w w' : World} (h : PoolSt B mk gs f w) (ht : Touch S w w') (hg : ∀ g ∈ gs, g ∉ S) (hs2 : ∀ g ∈ S, ∀ ys, ¬ Blk w g 2 ys)
    (hs : ∀ s ∈ S, s < B ∨ (∀ ys, ¬ Blk w s 35 ys ∧ ¬ Blk w s 3 ys)) : PoolSt B mk gs f w' := fun i g hi => by
  have := h i g hi
  have hm := hg g (List.mem_of_getElem? hi)
  split
  · next hf => rw [if_pos hf] at this; exact this.touch ht hm hs2
  · next hf => rw [if_neg hf] at this; exact this.touch ht hm hs
theorem PoolSt.cel {B : Nat} {mk : Value} {gs : List Nat} {f : Nat → Bool} {w : World} (h : PoolSt B mk gs f w) {g : Nat} (hg : g ∈ gs) : ∃ d s k f m, Cel w g d s k f m := by
  obtain ⟨i, hi⟩ := List.mem_iff_getElem?.1 hg
  have := h i g hi
  split at this
  · obtain ⟨_, _, _, C, _⟩ := this
    exact ⟨_, _, _, _, _, C⟩
  · obtain ⟨_, _, C, _⟩ := this
    exact ⟨_, _, _, _, _, C⟩
theorem PoolSt.done {B : Nat} {mk : Value} {gs : List Nat} {f : Nat → Bool} {w : World} (h : PoolSt B mk gs f w) {i g : Nat} (hi : gs[i]? = some g) :
    Calls Try.prog 11 #[.pointer (some ⟨g, 0, none⟩)] w fun e w' => e = .returned (.bool (f i)) ∧ w = w' := by
  have := h i g hi
  cases hf : f i
  · rw [if_neg (by simp [hf])] at this
    obtain ⟨_, _, C, _⟩ := this
    exact Done0_c w _ _ _ _ _ C
  · rw [if_pos hf] at this
    obtain ⟨_, _, _, C, _⟩ := this
    exact Done1_c w _ _ _ _ _ C
/-- What is stored in a variable of the statement's own, of another type. -/
theorem PoolSt.var {B ab : Nat} {mk : Value} {gs : List Nat} {f : Nat → Bool} {w : World} {xs : List Value} (h : PoolSt B mk gs f w) (hA : Blk w ab 36 xs) (k : Nat) (v : Value) : PoolSt B mk gs f (w.setCell ⟨ab, k, none⟩ v) := by
  refine h.touch (Touch.of_grown (grown_set w ab k v)) (fun g hg hm => ?_) (fun s hs ys hy => ?_) fun s hs => .inr fun ys => ⟨fun hy => ?_, fun hy => ?_⟩
  · obtain rfl : g = ab := by simpa using hm
    obtain ⟨_, _, _, _, _, C⟩ := h.cel hg
    exact Blk.ne C hA (by decide) rfl
  all_goals
    obtain rfl : s = ab := by simpa using hs
    exact Blk.ne hA hy (by decide) rfl

/-- '(x % m + m) % m'. -/
theorem rem_in (x : Int) (m : Nat) (h0 : 0 < m) (h1 : m ≤ 64) : ∃ k : Nat, k < m ∧ (wrap64 (x.tmod m + m)).tmod m = (k : Int) := by
  have hm : (m : Int) ≠ 0 := by omega
  have a1 := Int.tmod_lt_of_pos x (show (0 : Int) < m by omega)
  have a2 : -(m : Int) < x.tmod m := by
    rcases Int.le_total 0 x with h | h
    · have := Int.tmod_nonneg (m : Int) h; omega
    · have h3 : x.tmod m = -((-x).tmod m) := by rw [Int.neg_tmod]; omega
      have := Int.tmod_lt_of_pos (-x) (show (0 : Int) < m by omega)
      omega
  have hw : wrap64 (x.tmod m + m) = x.tmod m + m := by unfold wrap64; omega
  rw [hw]
  have b1 := Int.tmod_nonneg (m : Int) (show 0 ≤ x.tmod m + m by omega)
  have b2 := Int.tmod_lt_of_pos (x.tmod m + m) (show (0 : Int) < m by omega)
  exact ⟨((x.tmod m + m).tmod m).toNat, by omega, by omega⟩

theorem no_blk2 {w : World} {g m : Nat} {e1 e2 e : TypeId} {xs ys : List Value} (h1 : Blk w g e1 xs) (h2 : Blk w m e2 ys) (n1 : e1 ≠ e) (n2 : e2 ≠ e) : ∀ s ∈ [g, m], ∀ zs, ¬ Blk w s e zs := by
  intro s hs zs hz
  rcases (by simpa using hs : s = g ∨ s = m) with rfl | rfl
  · exact Blk.ne h1 hz n1 rfl
  · exact Blk.ne h2 hz n2 rfl

/-- The make of OncePool over the block mb. -/
abbrev poolMk (mb : Nat) : Value := .func (.func 16) #[] #[.pointer (some ⟨mb, 0, none⟩)]

/-- Get of a pool's cell. -/
theorem pool_get (w : World) (B mb g k : Nat) (gs : List Nat) (f : Nat → Bool) (hB : B ≤ w.heap.size) (hmB : mb < B) (hd : gs.Nodup) (hg : gs[k]? = some g) (hk : k < 64) (hP : PoolSt B (poolMk mb) gs f w) (hM : Blk w mb 32 (ml f)) :
    Calls Try.prog 12 #[.pointer (some ⟨g, 0, none⟩)] w fun e w' => ∃ w3, Touch [g, mb] w w3 ∧ PoolSt B (poolMk mb) gs (upd f k) w3 ∧ Blk w3 mb 32 (ml (upd f k)) ∧ Hands w3 [(k : Int), k * k] e w' := by
  have hPk := hP k g hg
  by_cases hf : f k = true
  · rw [if_pos hf] at hPk
    rw [upd_same hf]
    exact (Get_made w B g _ hPk).mono fun e w' H => ⟨w, Touch.refl _ _, hP, hM, H⟩
  · rw [if_neg hf] at hPk
    obtain ⟨bm, bi, C, M, I, h1, h2, h3⟩ := hPk
    have hgm : g ≠ mb := Blk.ne C hM (by decide)
    have hbg : bm ≠ g := Blk.ne M C (by decide)
    have hig : bi ≠ g := Blk.ne I C (by decide)
    refine (Get_counted w g mb 32 (ml (upd f k)) _ _ [(k : Int), k * k] C hgm (callable_of Try.func28 (by kernel_rfl) rfl) (by simp) (fun v1 t1 => ?_)).mono fun e w' hh => ?_
    · refine only1_c v1 bm bi _ _ _ (M.touch t1 (by simpa using hbg)) (I.touch t1 (by simpa using hig)) (callable_of Try.func16 (by kernel_rfl) rfl) _ ?_
      refine (pool1_c v1 mb f k hk (by simpa using hf) (hM.touch t1 (by simpa using hgm.symm))).mono fun e w2 h => ?_
      obtain ⟨A, n, c, rfl, h⟩ := h
      exact ⟨⟨_, rfl⟩, A, n, c, rfl, h⟩
    · obtain ⟨w3, t3, M3, N3, H3⟩ := hh
      refine ⟨w3, t3, fun i g' hg' => ?_, N3, H3⟩
      by_cases hik : i = k
      · subst hik
        obtain rfl : g = g' := by rw [hg] at hg'; exact Option.some.inj hg'
        rw [if_pos (by simp [upd])]
        exact M3.base hB
      · have hne : g' ≠ g := by
          rintro rfl
          have hi := (List.getElem?_eq_some_iff.1 hg').1
          exact hik ((List.getElem?_inj hi hd).1 (hg'.trans hg.symm))
        have hPi := hP i g' hg'
        have hu : upd f k i = f i := by simp [upd, hik]
        rw [hu]
        split
        · next hfi =>
          rw [if_pos hfi] at hPi
          have hPi' := hPi
          obtain ⟨_, _, _, C', _⟩ := hPi'
          exact hPi.touch t3 (by simp; exact ⟨hne, Blk.ne C' hM (by decide)⟩) (no_blk2 C hM (by decide) (by decide))
        · next hfi =>
          rw [if_neg hfi] at hPi
          have hPi' := hPi
          obtain ⟨_, _, C', _⟩ := hPi'
          refine hPi.touch t3 (by simp; exact ⟨hne, Blk.ne C' hM (by decide)⟩) fun s hs => ?_
          rcases (by simpa using hs : s = g ∨ s = mb) with rfl | rfl
          · exact .inr fun ys => ⟨fun hz => Blk.ne C hz (by decide) rfl, fun hz => Blk.ne C hz (by decide) rfl⟩
          · exact .inl hmB
end Go.Proofs.Ythffglfckcickaa
