/- The walk of OnceOrder. -/
import Derived.Test.YthffglfckcickaaOrder
import Derived.Test.YthffglfckcickaaLaw6A
namespace Go.Proofs.Ythffglfckcickaa
open Go.RowKit

theorem rowl_zero (n : Nat) : rowl n (fun i => decide (i < 0)) = (madeCells #[.int .i64 0] n).toList := by
  rw [toList_madeCells_one]
  apply List.ext_getElem
  · simp [rowl]
  · intro i h1 h2
    simp [rowl]

set_option maxHeartbeats 8000000 in
set_option maxRecDepth 100000 in
theorem OnceOrder_w (w : World) (n0 : Int) (A : Option Addr) (c m : Nat) (l : List Int) (h0 : Rd w w.heap.size A c 1 m (is l)) :
    Calls Try.prog 7 #[.int .i64 n0, .slice A m c] w fun e w' => e = .returned (.bool true) ∧ Below w.heap.size w w' := by
  have hmf : ∀ (fn : Fn) (first cap : Array Value) (w : World), (Instr.makeFunc fn first cap).run Try.prog w = .ok (.func fn first cap) w := fun _ _ _ _ => rfl
  have hnot : ∀ (x : Bool) (w : World), (Op.unary .not (.bool x)).run Try.prog w = .ok (.bool (!x)) w := fun _ _ => rfl
  obtain ⟨i0, hi, hz0, hz1, hz2⟩ := info_parts int_info
  go_enter Try.func7, Try.ntmps7
  go_wp2_with fail
  refine (begun_c _).mono ?_
  rintro e w3 ⟨rfl, hb3⟩
  have hsz3 := hb3.size
  by_cases k1 : n0 < 1
  · go_wp2_with fail
    go_ret
    exact ⟨rfl, hb3⟩
  by_cases k2 : 20 < n0
  · go_wp2_with fail
    go_ret
    exact ⟨rfl, hb3⟩
  obtain ⟨n, rfl⟩ : ∃ n : Nat, n0 = n := ⟨n0.toNat, by omega⟩
  have hn20 : 1 ≤ n ∧ n ≤ 20 := by omega
  go_wp2_with (at_make; go_must (refine wpList_make_full _ rfl _ _ 31 rfl w3.heap.size 3 i0 (.int .i64 0) 1 Try.underlying31 hi hz0 hz1 _ _ _ _ n rfl rfl rfl rfl ?b2 ?b3 (Nat.le_refl _) ?_))
  case b2 => rw [hz2]; omega
  case b3 => unfold maxLen; omega
  intro w4 own4 grow4
  go_wp2_with fail
  have hb4 : Below w.heap.size w w4 := hb3.grown grow4 hsz3 (fun k h => by cases h)
  have hsz4 := hb4.size
  have V6 : Blk _ _ 31 [.slice (some ⟨w3.heap.size, 0, none⟩) n n] := (Blk.new w4 #[.slice (some ⟨w3.heap.size, 0, none⟩) n n] 31).alloc (.cells #[.slice none 0 0] 33)
  have L6 : Blk _ _ 33 [.slice none 0 0] := Blk.new (w4.alloc (.cells #[.slice (some ⟨w3.heap.size, 0, none⟩) n n] 31)) #[.slice none 0 0] 33
  have hs5 : (w4.alloc (.cells #[.slice (some ⟨w3.heap.size, 0, none⟩) n n] 31)).heap.size = w4.heap.size + 1 := by simp
  rw [hs5] at L6
  have hb46 : Below w4.heap.size w4 ((w4.alloc (.cells #[.slice (some ⟨w3.heap.size, 0, none⟩) n n] 31)).alloc (.cells #[.slice none 0 0] 33)) := ((Below.refl _ _).alloc (Nat.le_refl _) _).alloc (by rw [hs5]; omega) _
  have P := Pool_c ((w4.alloc (.cells #[.slice (some ⟨w3.heap.size, 0, none⟩) n n] 31)).alloc (.cells #[.slice none 0 0] 33)) n 17 #[.pointer (some ⟨w4.heap.size, 0, none⟩), .pointer (some ⟨w4.heap.size + 1, 0, none⟩)]
  rw [show poolLen (n : Int) = n by unfold poolLen; omega] at P
  refine P.mono ?_
  clear P hs5
  generalize (w4.alloc (.cells #[.slice (some ⟨w3.heap.size, 0, none⟩) n n] 31)).alloc (.cells #[.slice none 0 0] 33) = w6 at *
  rintro e w7 ⟨A7, c7, gs, rfl, hgl, o7, P7, hb7⟩
  obtain ⟨g6, rfl, hg6, hg6l⟩ := own_some o7 (by omega)
  have hb6 := hb4.trans (hb46.mono hsz4)
  have hsz6 := hb6.size
  have hb7' := hb6.trans (hb7.mono hsz6)
  have hsz7 := hb7'.size
  have hgB : ∀ g ∈ gs, w6.heap.size ≤ g := fun g hg => by
    obtain ⟨i, hi⟩ := List.mem_iff_getElem?.1 hg
    obtain ⟨_, _, _, _, _, h, _⟩ := P7.1 i g hi
    exact h
  have hgm3 : w3.heap.size < w4.heap.size := by
    obtain ⟨ys, hy⟩ := own_blk own4 (g := w3.heap.size) rfl
    exact hy.lt
  have hl6 := L6.lt
  have L7 := L6.past hb7
  have V7 := V6.past hb7
  have tL : Touch [w4.heap.size + 1] w7 (w7.setCell ⟨w4.heap.size + 1, 0, none⟩ (.slice (some ⟨g6, 0, none⟩) n c7)) := Touch.of_grown (grown_set _ _ _ _)
  have nL : ∀ {e : TypeId}, e ≠ 33 → ∀ g' ∈ [w4.heap.size + 1], ∀ ys, ¬ Blk w7 g' e ys := fun he g' hg' zs hz => by
    rw [show g' = w4.heap.size + 1 by simpa using hg'] at hz
    exact Blk.ne hz L7 he rfl
  obtain ⟨o, ho⟩ : ∃ o : Ord, o = { B := w6.heap.size, n := n, gm := w3.heap.size, vb := w4.heap.size, lb := w4.heap.size + 1, g6 := g6, c6 := c7, gs := gs } := ⟨_, rfl⟩
  have ok : o.Ok := by rw [ho]; exact ⟨hgl, P7.2, by show w3.heap.size < w6.heap.size; omega, hn20.2⟩
  have H8 : OSt o (w7.setCell ⟨w4.heap.size + 1, 0, none⟩ (.slice (some ⟨g6, 0, none⟩) n c7)) 0 n (fun i => decide (i < 0)) := by
    rw [ho]
    refine ⟨fun i g hg hi => ?_, ?_, V7.touch tL (by simp), L7.set 0 _, own_touch (own_base o7 (Nat.zero_le _)) tL (nL (by decide)), Nat.le_trans hb7.size tL.size⟩
    · rw [if_neg (by omega)]
      have hS := P7.1 i g hg
      obtain ⟨_, _, C, _⟩ := id hS
      refine hS.touch tL (by simpa using Blk.ne C L7 (by decide)) fun s hs => .inr fun ys => ⟨nL (by decide) s hs ys, nL (by decide) s hs ys⟩
    · show World.ownsRow _ 0 _ _ _ _ (rowl n fun i => decide (i < 0))
      rw [rowl_zero]
      exact own_touch (own_below (own_below (own_base own4 (Nat.zero_le _)) hb46) hb7) tL (nL (by decide))
  have hb8 : Below w.heap.size w (w7.setCell ⟨w4.heap.size + 1, 0, none⟩ (.slice (some ⟨g6, 0, none⟩) n c7)) := hb7'.setCell (by show w.heap.size ≤ w4.heap.size + 1; omega) _
  have hr8 := h0.past hb8
  have hcl := Blk.cell L7 (i := 0) rfl
  have hzl := Blk.free L7 0
  have hmono : ∀ s k, s ∈ o.gm :: o.gs.take k → w.heap.size ≤ s := fun s k hs => by
    rw [ho] at hs
    rcases List.mem_cons.1 hs with hs | hs
    · rw [hs]; exact hsz3
    · have := hgB s (List.mem_of_mem_take hs); omega
  have HM := Lib.hid hmono
  have HO := Lib.hid ho
  clear own4 grow4 L6 V6 hb46 hb7 tL hmono hb6 hb7' hgB P7 o7 V7 nL ho hb3 hb4
  go_wp2_with fail
  go_loopw [8, 9] (fun s8 s9 wr => ∃ i f : Nat, ∃ F : Int, i ≤ m ∧ i ≤ 20 ∧ s9 = .int .i64 i ∧ s8 = .int .i64 F ∧ F = (f : Int) - 1 ∧ f ≤ n ∧ OSt o wr f n (fun i => decide (i < f)) ∧ Rd wr w.heap.size A c 1 m (is l) ∧ Below w.heap.size w wr) (fun _ s9 _ => 20 - (intOf s9).toNat)
  case atStart => exact ⟨0, 0, -1, by omega, by omega, rfl, rfl, by omega, by omega, H8, hr8, hb8⟩
  case round =>
    clear H8 hr8 hb8 hcl hzl h0
    obtain ⟨i, f, F, him, hi20, rfl, rfl, hF, hfn, H, hr, hb⟩ := hrel
    have hszr := hb.size
    by_cases q : i < m ∧ i < 20
    · obtain ⟨q1, q2⟩ := q
      obtain ⟨b, off, x, rfl, hcx, _, hxe⟩ := hr.int q1
      clear hxe
      obtain ⟨k, hk, hkx⟩ := rem_in x n (by omega) (by omega)
      obtain ⟨g, hg⟩ : ∃ g, gs[k]? = some g := ⟨_, List.getElem?_eq_getElem (by omega)⟩
      have hn0 : ¬ (n : Int) = 0 := by omega
      have hlb : wr.cell? ⟨w4.heap.size + 1, 0, none⟩ = some (.slice (some ⟨g6, 0, none⟩) n c7) := by
        have := Blk.cell H.bl (i := 0) rfl
        rw [HO.out] at this; exact this
      have hcp : wr.cell? ⟨g6, k, none⟩ = some (.pointer (some ⟨g, 0, none⟩)) := by
        have := H.ptrs.cellAt k (by rw [HO.out]; show k < n * 1; omega)
        rw [HO.out] at this
        rw [List.getElem?_map, hg] at this
        exact this
      have G := gets_to o ok k (by rw [HO.out]; exact hk) wr f n g _ (by rw [HO.out]; exact hg) hk H (fun i h1 h2 => by simp; omega)
      have e1 : made' (fun i => decide (i < f)) f k = fun i => decide (i < max f (k + 1)) := by
        funext j
        unfold made'
        rw [← Bool.decide_and, ← Bool.decide_or]
        exact decide_eq_decide.2 (by omega)
      rw [e1] at G
      have HG := Lib.hid G
      clear G e1 hg
      have hfk : F < (k : Int) ∨ ¬ F < (k : Int) := by omega
      rcases hfk with hfk | hfk
      all_goals
        go_wp2_with fail
        refine HG.out.mono ?_
        rintro e w10 ⟨w9, t9, H9, Ax, nx, cx, rfl, ox, b10⟩
        have hnx := own_len ox
        rw [upl_length] at hnx
        subst hnx
        obtain ⟨gx, rfl, _, _, hat⟩ := own_at ox (by omega)
        have hx0 : w10.cell? ⟨gx, 0, none⟩ = some (.int .i64 1) := by have := hat 0 (by omega); rw [upl_at (Nat.zero_le _)] at this; exact this
        have hxk : w10.cell? ⟨gx, k, none⟩ = some (.int .i64 ((k : Int) + 1)) := by have := hat k (by omega); rw [upl_at (Nat.le_refl _)] at this; exact this
        have tb := t9.below (fun s hs => HM.out s _ hs) hszr
        have hb10 := (hb.trans tb).trans (b10.mono (hb.trans tb).size)
        have hr10 := hr.below (tb.trans (b10.mono (hb.trans tb).size))
        have H10 := H9.past b10
        have hk20 : (k : Int) ≤ 20 := by omega
        clear hat ox t9 tb H9 b10 H hr hb hlb hcp hcx
        go_wp2_with fail
        go_roundw
        case rel => exact ⟨i + 1, max f (k + 1), _, by omega, by omega, by go_num, rfl, by omega, by omega, H10, hr10, hb10⟩
        case measure => simp [intOf]; omega
    · have q' : ¬ i < m ∨ i < m ∧ ¬ i < 20 := by omega
      clear q
      rcases q' with q1 | ⟨q1, q2⟩
      all_goals
        go_wp2_with fail
        go_loopw [12] (fun s12 wq => ∃ j : Nat, j ≤ n ∧ s12 = .int .i64 j ∧ OSt o wq f n (fun i => decide (i < f)) ∧ Below w.heap.size w wq) (fun s12 _ => n - (intOf s12).toNat)
        case atStart => exact ⟨0, by omega, rfl, H, hb⟩
        case round =>
          clear H hr hb hszr q1 him hi20
          obtain ⟨j, hj, rfl, H, hb⟩ := hrel
          by_cases hjn : j < n
          · have hvb : wr.cell? ⟨w4.heap.size, 0, none⟩ = some (.slice (some ⟨w3.heap.size, 0, none⟩) n n) := by
              have := Blk.cell H.bm (i := 0) rfl
              rw [HO.out] at this; exact this
            have hrow : wr.cell? ⟨w3.heap.size, j, none⟩ = some (.int .i64 (if decide (j < f) = true then 1 else 0)) := by
              have := H.row.cellAt j (by rw [HO.out]; show j < n * 1; omega)
              rw [HO.out] at this
              rw [rowl_at _ hjn] at this
              exact this
            by_cases hjf : j < f
            · rw [if_pos (by simpa using hjf)] at hrow
              have hc : (j : Int) ≤ F := by omega
              go_wp2_with fail
              go_roundw
              case rel => exact ⟨j + 1, by omega, by go_num, H, hb⟩
              case measure => simp [intOf]; omega
            · rw [if_neg (by simpa using hjf)] at hrow
              have hc : ¬ (j : Int) ≤ F := by omega
              go_wp2_with fail
              go_roundw
              case rel => exact ⟨j + 1, by omega, by go_num, H, hb⟩
              case measure => simp [intOf]; omega
          · obtain rfl : j = n := by omega
            go_wp2_with fail
            go_ret
            exact ⟨rfl, hb⟩
end Go.Proofs.Ythffglfckcickaa
