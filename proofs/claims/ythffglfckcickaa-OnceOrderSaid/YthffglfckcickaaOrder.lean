/- OnceOrder's cells, which make use of one another: Get of the k-th makes all below that were not made. -/
import Derived.Test.YthffglfckcickaaPool
import Derived.Test.YthffglfckcickaaLaw6D
namespace Go.Proofs.Ythffglfckcickaa
open Go.RowKit

/-- The k-th answer: 1 to k + 1. -/
def upl (k : Nat) : List Int := (List.range (k + 1)).map fun i => ((i : Nat) : Int) + 1
theorem upl_length (k : Nat) : (upl k).length = k + 1 := by simp [upl]
theorem upl_zero : upl 0 = [1] := rfl
theorem upl_succ (k : Nat) : upl (k + 1) = upl k ++ [((k + 1 : Nat) : Int) + 1] := by
  unfold upl
  rw [List.range_succ, List.map_append]
  rfl
theorem upl_at {k i : Nat} (h : i ≤ k) : (upl k).getD i 0 = (i : Int) + 1 := by
  have hl : i < (upl k).length := by rw [upl_length]; omega
  simp [List.getD, upl, show i < k + 1 by omega]

/-- How often each was made, as the row of the statement. -/
def rowl (n : Nat) (h : Nat → Bool) : List Value := (List.range n).map fun i => .int .i64 (if h i then 1 else 0)
theorem rowl_length (n : Nat) (h : Nat → Bool) : (rowl n h).length = n := by simp [rowl]
theorem rowl_at {n : Nat} (h : Nat → Bool) {k : Nat} (hk : k < n) : (rowl n h)[k]? = some (.int .i64 (if h k then 1 else 0)) := by simp [rowl, hk]
theorem rowl_set (n : Nat) (h : Nat → Bool) (k : Nat) : (rowl n h).set k (.int .i64 1) = rowl n (upd h k) := by
  apply List.ext_getElem
  · simp [rowl]
  · intro i h1 h2
    simp only [rowl, upd, List.getElem_set, List.getElem_map, List.getElem_range]
    by_cases hi : i = k
    · subst hi; simp
    · have : ¬ k = i := fun e => hi e.symm
      simp [hi, this]
/-- Behind the making of f to k. -/
def made' (h : Nat → Bool) (f k : Nat) : Nat → Bool := fun i => h i || (decide (f ≤ i) && decide (i ≤ k))

structure Ord where
  (B n gm vb lb g6 c6 : Nat) (gs : List Nat)
structure Ord.Ok (o : Ord) : Prop where
  len : o.gs.length = o.n
  nd : o.gs.Nodup
  gmB : o.gm < o.B
  le : o.n ≤ 20
/-- The make of OnceOrder. -/
abbrev Ord.mk' (o : Ord) : Value := .func (.func 17) #[] #[.pointer (some ⟨o.vb, 0, none⟩), .pointer (some ⟨o.lb, 0, none⟩)]

/-- The cells below U: those below f are made; h: what the row counts. -/
structure OSt (o : Ord) (w : World) (f U : Nat) (h : Nat → Bool) : Prop where
  cells : ∀ i g, o.gs[i]? = some g → i < U → if i < f then Made o.B w g (upl i) else Seed o.B o.mk' w g i
  row : w.ownsRow 0 3 1 (.slice (some ⟨o.gm, 0, none⟩) o.n o.n) o.n (rowl o.n h)
  bm : Blk w o.vb 31 [.slice (some ⟨o.gm, 0, none⟩) o.n o.n]
  bl : Blk w o.lb 33 [.slice (some ⟨o.g6, 0, none⟩) o.n o.c6]
  ptrs : w.ownsRow 0 24 1 (.slice (some ⟨o.g6, 0, none⟩) o.n o.c6) o.n (o.gs.map ptr)
  size : o.B ≤ w.heap.size

section
variable {o : Ord} {w w' : World} {f U : Nat} {h : Nat → Bool}
theorem OSt.rowBlk (H : OSt o w f U h) : ∃ ys, Blk w o.gm 3 ys := own_blk H.row rfl
theorem OSt.past (H : OSt o w f U h) (hb : Below w.heap.size w w') : OSt o w' f U h :=
  ⟨fun i g hg hi => by
    have := H.cells i g hg hi
    split
    · next hf => rw [if_pos hf] at this; exact this.past hb
    · next hf => rw [if_neg hf] at this; exact this.past hb,
   own_below H.row hb, H.bm.past hb, H.bl.past hb, own_below H.ptrs hb, Nat.le_trans H.size hb.size⟩
theorem OSt.cel (H : OSt o w f U h) {i g : Nat} (hg : o.gs[i]? = some g) (hi : i < U) : ∃ d s k f m, Cel w g d s k f m := by
  have := H.cells i g hg hi
  split at this
  · obtain ⟨_, _, _, C, _⟩ := this
    exact ⟨_, _, _, _, _, C⟩
  · obtain ⟨_, _, C, _⟩ := this
    exact ⟨_, _, _, _, _, C⟩
theorem OSt.less (H : OSt o w f U h) {V : Nat} (hV : V ≤ U) : OSt o w f V h := ⟨fun i g hg hi => H.cells i g hg (by omega), H.row, H.bm, H.bl, H.ptrs, H.size⟩
/-- Behind writes of a cell of the pool that is not among those below U. -/
theorem OSt.other (H : OSt o w f U h) {g : Nat} {d s k : Int} {F m : Value} (C : Cel w g d s k F m) (ht : Touch [g] w w') (hn : ∀ i, i < U → o.gs[i]? ≠ some g) : OSt o w' f U h := by
  have n1 : ∀ {e : TypeId}, e ≠ 51 → ∀ g' ∈ [g], ∀ ys, ¬ Blk w g' e ys := fun he g' hg' ys hy => by
    obtain rfl : g' = g := by simpa using hg'
    exact Blk.ne hy C he rfl
  refine ⟨fun i g' hg hi => ?_, own_touch H.row ht (n1 (by decide)), H.bm.touch ht ?_, H.bl.touch ht ?_, own_touch H.ptrs ht (n1 (by decide)), Nat.le_trans H.size ht.size⟩
  · have hne : g' ∉ [g] := by
      intro hm
      obtain rfl : g' = g := by simpa using hm
      exact hn i hi hg
    have := H.cells i g' hg hi
    split
    · next hf => rw [if_pos hf] at this; exact this.touch ht hne C.no2
    · next hf => rw [if_neg hf] at this; exact this.touch ht hne fun s hs => .inr fun ys => ⟨n1 (by decide) s hs ys, n1 (by decide) s hs ys⟩
  · simpa using Blk.ne H.bm C (by decide)
  · simpa using Blk.ne H.bl C (by decide)
/-- Behind a count. -/
theorem OSt.count (H : OSt o w f U h) (ok : o.Ok) (k : Nat) : OSt o (w.setCell ⟨o.gm, k, none⟩ (.int .i64 1)) f U (upd h k) := by
  obtain ⟨ys, hy⟩ := H.rowBlk
  have ht : Touch [o.gm] w (w.setCell ⟨o.gm, k, none⟩ (.int .i64 1)) := Touch.of_grown (grown_set _ _ _ _)
  have n1 : ∀ {e : TypeId}, e ≠ 3 → ∀ g' ∈ [o.gm], ∀ ys, ¬ Blk w g' e ys := fun he g' hg' zs hz => by
    obtain rfl : g' = o.gm := by simpa using hg'
    exact Blk.ne hz hy he rfl
  have hr := (H.row.stored k (.int .i64 1)).1
  rw [rowl_set] at hr
  refine ⟨fun i g' hg hi => ?_, hr, H.bm.touch ht ?_, H.bl.touch ht ?_, own_touch H.ptrs ht (n1 (by decide)), Nat.le_trans H.size ht.size⟩
  · obtain ⟨_, _, _, _, _, C⟩ := H.cel hg hi
    have hne : g' ∉ [o.gm] := by simpa using Blk.ne C hy (by decide)
    have := H.cells i g' hg hi
    split
    · next hf => rw [if_pos hf] at this; exact this.touch ht hne (n1 (by decide))
    · next hf => rw [if_neg hf] at this; exact this.touch ht hne fun s hs => .inl (by rw [show s = o.gm by simpa using hs]; exact ok.gmB)
  · simpa using Blk.ne H.bm hy (by decide)
  · simpa using Blk.ne H.bl hy (by decide)
end

/-- What Get of the k-th cell does. -/
def GetsTo (o : Ord) (k : Nat) : Prop := ∀ (w : World) (f U g : Nat) (h : Nat → Bool), o.gs[k]? = some g → k < U → OSt o w f U h → (∀ i, f ≤ i → i ≤ k → h i = false) →
  Calls Try.prog 12 #[.pointer (some ⟨g, 0, none⟩)] w fun e w' => ∃ w3, Touch (o.gm :: o.gs.take (k + 1)) w w3 ∧ OSt o w3 (max f (k + 1)) U (made' h f k) ∧ Hands w3 (upl k) e w'

set_option maxRecDepth 100000 in
theorem order1_c (o : Ord) (ok : o.Ok) (w : World) (f k : Nat) (h : Nat → Bool) (hk : k < o.n) (hf : f ≤ k) (H : OSt o w f k h) (hh : ∀ i, f ≤ i → i ≤ k → h i = false) (IH : ∀ j, k = j + 1 → GetsTo o j) :
    Calls Try.prog 17 #[.int .i64 k, .pointer (some ⟨o.vb, 0, none⟩), .pointer (some ⟨o.lb, 0, none⟩)] w fun e w' => ∃ A n c, e = .returned (.slice A n c) ∧ Rd w' w'.heap.size A c 1 n (is (upl k)) ∧ Touch (o.gm :: o.gs.take k) w w' ∧ OSt o w' k k (made' h f k) := by
  have hc1 := Blk.cell H.bm (i := 0) rfl
  have hrow := H.row.cellAt k (by omega)
  rw [rowl_at h hk, hh k hf (Nat.le_refl _)] at hrow
  have hrow' : w.cell? ⟨o.gm, k, none⟩ = some (.int .i64 0) := hrow
  clear hrow
  have hz := H.row.frozenAt k
  have H1 := H.count ok k
  have t1 : Touch (o.gm :: o.gs.take k) w (w.setCell ⟨o.gm, k, none⟩ (.int .i64 1)) := (Touch.refl _ _).cell (by simp) _ _
  have hsz : (w.setCell ⟨o.gm, k, none⟩ (.int .i64 1)).heap.size = w.heap.size := by simp [World.setCell]
  by_cases k0 : k = 0
  · subst k0
    have hr := Rd.new (w.setCell ⟨o.gm, 0, none⟩ (.int .i64 1)) #[.int .i64 1] 2 1 1 rfl (by simp [maxLen])
    rw [hsz] at hr
    obtain rfl : f = 0 := by omega
    have e1 : upd h 0 = made' h 0 0 := by
      funext i
      simp [upd, made']
    rw [e1] at H1
    have HS := Lib.hid hsz; clear hsz e1
    go_enter Try.func17, Try.ntmps17
    go_wp2_with fail
    go_ret
    exact ⟨_, _, _, rfl, hr.tight, t1.alloc _, H1.past ((Below.refl _ _).alloc (Nat.le_refl _) _)⟩
  · obtain ⟨j, hj⟩ : ∃ j, k = j + 1 := ⟨k - 1, by omega⟩
    have hk0 : ¬ (k : Int) = 0 := by omega
    have hkj : (k : Int) - 1 = (j : Nat) := by omega
    have hjn : j < o.n := by omega
    have hlen := ok.len
    have hk20 := ok.le
    have hj20 : (j : Int) ≤ 20 := by omega
    obtain ⟨g, hg⟩ : ∃ g, o.gs[j]? = some g := ⟨_, List.getElem?_eq_getElem (by omega)⟩
    have hl1 := Blk.cell H1.bl (i := 0) rfl
    have hcp := H1.ptrs.cellAt j (by omega)
    rw [List.getElem?_map, hg] at hcp
    have hcp' : (w.setCell ⟨o.gm, k, none⟩ (.int .i64 1)).cell? ⟨o.g6, j, none⟩ = some (.pointer (some ⟨g, 0, none⟩)) := hcp
    have G := IH j hj (w.setCell ⟨o.gm, k, none⟩ (.int .i64 1)) f k g (upd h k) hg (by omega) H1 (fun i h1 h2 => by
      have := hh i h1 (by omega)
      simp [upd, this]; omega)
    have e1 : max f (j + 1) = k := by omega
    have e2 : made' (upd h k) f j = made' h f k := by
      funext i
      simp only [made', upd]
      by_cases q : i = k
      · subst q; simp [hf]
      · have : i ≤ j ↔ i ≤ k := by omega
        simp [q, this]
    rw [e1, e2] at G
    have HJ := Lib.hid hj; have HG := Lib.hid G; have HS := Lib.hid hsz; have HL := Lib.hid hlen
    clear hj G hsz e1 e2 hcp hg hlen
    go_enter Try.func17, Try.ntmps17
    go_wp2_with fail
    refine HG.out.mono ?_
    rintro e w4 ⟨w3, t3, H3, A, n, c, rfl, o4, b4⟩
    have hn := own_len o4
    rw [upl_length, ← HJ.out] at hn
    obtain rfl : k = n := hn.symm
    have hb4 := b4.size
    go_wp2_with (at_builtin; go_must (refine wpList_push rfl (.tmp 21) (.tmp 24) _ rfl w3.heap.size 2 _ 8 Try.underlying22 int64_info rfl A c k (is (upl j)) rfl o4 rfl rfl ?c2 ?c3 ?c4 ?_))
    case c2 => unfold maxLen; omega
    case c3 => omega
    case c4 => omega
    intro A' c' w5 o5 g5 b5
    have e3 : is (upl j) ++ [.int .i64 ((k : Int) + 1)] = is (upl k) := by rw [HJ.out, upl_succ, is_append]; rfl
    rw [e3] at o5
    have t3' : Touch (o.gm :: o.gs.take k) (w.setCell ⟨o.gm, k, none⟩ (.int .i64 1)) w3 := by rw [HJ.out] at t3 ⊢; exact t3
    have b35 := b4.trans b5
    clear e3
    go_wp2_with fail
    go_ret
    exact ⟨A', _, c', rfl, Rd.of_own o5, (t1.trans t3').trans (.of_below b35), H3.past b35⟩

theorem take_mem {gs : List Nat} {m g : Nat} (h : g ∈ gs.take m) : ∃ j, j < m ∧ gs[j]? = some g := by
  obtain ⟨j, hj⟩ := List.mem_iff_getElem?.1 h
  rw [List.getElem?_take] at hj
  split at hj
  · exact ⟨j, by assumption, hj⟩
  · cases hj
theorem nodup_at {gs : List Nat} (hd : gs.Nodup) {i j g : Nat} (hi : gs[i]? = some g) (hj : gs[j]? = some g) : i = j :=
  (List.getElem?_inj (List.getElem?_eq_some_iff.1 hi).1 hd).1 (hi.trans hj.symm)

theorem gets_step (o : Ord) (ok : o.Ok) (k : Nat) (hk : k < o.n) (IH : ∀ j, k = j + 1 → GetsTo o j) : GetsTo o k := by
  intro w f U g h hg hkU H hh
  have hk20 := ok.le
  by_cases hf : k < f
  · have hM := H.cells k g hg hkU
    rw [if_pos hf] at hM
    have e1 : max f (k + 1) = f := by omega
    have e2 : made' h f k = h := by
      funext i
      have : ¬ (f ≤ i ∧ i ≤ k) := by omega
      simp [made']
      omega
    rw [e1, e2]
    exact (Get_made w o.B g _ hM).mono fun e w' hH => ⟨w, Touch.refl _ _, H, hH⟩
  · have hS := H.cells k g hg hkU
    rw [if_neg hf] at hS
    obtain ⟨bm, bi, C, M, I, h1, h2, h3⟩ := hS
    obtain ⟨ys, hy⟩ := H.rowBlk
    have hgm : g ≠ o.gm := Blk.ne C hy (by decide)
    have hbg : bm ≠ g := Blk.ne M C (by decide)
    have hig : bi ≠ g := Blk.ne I C (by decide)
    have hno : ∀ i, i < k → o.gs[i]? ≠ some g := fun i hi he => by have := nodup_at ok.nd he hg; omega
    have hgS : g ∉ o.gm :: o.gs.take k := by
      intro hm
      rcases List.mem_cons.1 hm with hm | hm
      · exact hgm hm
      · obtain ⟨j, hj, hj'⟩ := take_mem hm
        exact hno j hj hj'
    have hG : Gives (fun w1 w2 l => l = upl k ∧ Touch (o.gm :: o.gs.take k) w1 w2 ∧ OSt o w2 k k (made' h f k) ∧ Cel w2 g 0 1 1 .nilFunc nilS) 28 #[.pointer (some ⟨bm, 0, none⟩), .pointer (some ⟨bi, 0, none⟩)] w g 0 1 := fun w1 t1 C1 => by
      have H1 : OSt o w1 f k h := (H.less (by omega)).other C t1 hno
      refine only1_c w1 bm bi _ _ _ (M.touch t1 (by simpa using hbg)) (I.touch t1 (by simpa using hig)) (callable_of Try.func17 (by kernel_rfl) rfl) _ ?_
      refine (order1_c o ok w1 f k h hk (by omega) H1 hh IH).mono fun e w2 hh2 => ?_
      obtain ⟨A, n, c, rfl, hr, t2, H2⟩ := hh2
      exact ⟨⟨_, rfl⟩, A, n, c, upl k, rfl, hr, by rw [upl_length]; omega, C1.touch t2 hgS, rfl, t2, H2, C1.touch t2 hgS⟩
    refine (Get_first w g _ C _ (hG.fills (callable_of Try.func28 (by kernel_rfl) rfl))).mono fun e w' hr => ?_
    obtain ⟨w1, w2, w3, l, t1, ⟨rfl, t2, H2, C2⟩, t3, M3, hH⟩ := hr
    have hkl := (List.getElem?_eq_some_iff.1 hg).1
    have hgk : g ∈ o.gs.take (k + 1) := List.mem_of_getElem? (i := k) (by rw [List.getElem?_take, if_pos (by omega)]; exact hg)
    have w1S : ∀ s ∈ [g], s ∈ o.gm :: o.gs.take (k + 1) := by intro s hs; rw [show s = g by simpa using hs]; exact List.mem_cons_of_mem _ hgk
    have w2S : ∀ s ∈ o.gm :: o.gs.take k, s ∈ o.gm :: o.gs.take (k + 1) := by
      intro s hs
      rcases List.mem_cons.1 hs with hs | hs
      · rw [hs]; exact List.mem_cons_self
      · obtain ⟨j, hj, hj'⟩ := take_mem hs
        exact List.mem_cons_of_mem _ (List.mem_of_getElem? (i := j) (by rw [List.getElem?_take, if_pos (by omega)]; exact hj'))
    have tS : Touch (o.gm :: o.gs.take (k + 1)) w w3 := ((t1.wide w1S).trans (t2.wide w2S)).trans (t3.wide w1S)
    have H3 : OSt o w3 k k (made' h f k) := H2.other C2 t3 hno
    have e1 : max f (k + 1) = k + 1 := by omega
    rw [e1]
    refine ⟨w3, tS, ⟨fun i g' hg' hi => ?_, H3.row, H3.bm, H3.bl, H3.ptrs, H3.size⟩, hH⟩
    rcases Nat.lt_trichotomy i k with hik | hik | hik
    · have := H3.cells i g' hg' hik
      rw [if_pos hik] at this
      rw [if_pos (by omega)]
      exact this
    · subst hik
      obtain rfl : g = g' := Option.some.inj (hg.symm.trans hg')
      rw [if_pos (by omega)]
      exact M3.base H2.size
    · have := H.cells i g' hg' hi
      rw [if_neg (by omega)] at this
      rw [if_neg (by omega)]
      obtain ⟨_, _, _, _, _, C'⟩ := H.cel hg' hi
      refine this.touch tS (fun hm => ?_) fun s hs => ?_
      · rcases List.mem_cons.1 hm with hm | hm
        · exact Blk.ne C' hy (by decide) hm
        · obtain ⟨j, hj, hj'⟩ := take_mem hm
          have := nodup_at ok.nd hj' hg'
          omega
      · rcases List.mem_cons.1 hs with hs | hs
        · exact .inl (by rw [hs]; exact ok.gmB)
        · obtain ⟨j, hj, hj'⟩ := take_mem hs
          obtain ⟨_, _, _, _, _, Cs⟩ := H.cel hj' (by omega)
          exact .inr fun zs => ⟨fun hz => Blk.ne Cs hz (by decide) rfl, fun hz => Blk.ne Cs hz (by decide) rfl⟩

theorem gets_to (o : Ord) (ok : o.Ok) (k : Nat) (hk : k < o.n) : GetsTo o k := by
  induction k with
  | zero => exact gets_step o ok 0 hk fun j h => by omega
  | succ j ih => exact gets_step o ok (j + 1) hk fun i h => by
                  obtain rfl : j = i := by omega
                  exact ih (by omega)
end Go.Proofs.Ythffglfckcickaa
