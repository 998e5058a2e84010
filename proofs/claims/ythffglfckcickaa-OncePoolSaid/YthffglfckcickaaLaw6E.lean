/- The walk of OncePool: a length above 70. -/
import Derived.Test.YthffglfckcickaaLaw6D
import Derived.Test.YthffglfckcickaaHeld
namespace Go.Proofs.Ythffglfckcickaa
open Go.RowKit

set_option maxHeartbeats 8000000 in
set_option maxRecDepth 100000 in
theorem pool_w1 (w : World) (n0 : Int) (h70 : 70 < n0) (A : Option Addr) (c n : Nat) (l : List Int) (h0 : Rd w w.heap.size A c 1 n (is l)) :
    Calls Try.prog 5 #[.int .i64 n0, .slice A n c] w fun e w' => e = .returned (.bool true) ∧ Below w.heap.size w w' := by
  have hmf : ∀ (fn : Fn) (first cap : Array Value) (w : World), (Instr.makeFunc fn first cap).run Try.prog w = .ok (.func fn first cap) w := fun _ _ _ _ => rfl
  have hnot : ∀ (x : Bool) (w : World), (Op.unary .not (.bool x)).run Try.prog w = .ok (.bool (!x)) w := fun _ _ => rfl
  go_enter Try.func5, Try.ntmps5
  go_wp2_with fail
  refine (begun_c _).mono ?_
  rintro e w3 ⟨rfl, hb3⟩
  go_wp2_with fail
  have P := Pool_c (w3.alloc (.cells #[.int .i64 0, .int .i64 0, .int .i64 0, .int .i64 0, .int .i64 0, .int .i64 0, .int .i64 0, .int .i64 0, .int .i64 0, .int .i64 0, .int .i64 0, .int .i64 0, .int .i64 0, .int .i64 0, .int .i64 0, .int .i64 0, .int .i64 0, .int .i64 0, .int .i64 0, .int .i64 0, .int .i64 0, .int .i64 0, .int .i64 0, .int .i64 0, .int .i64 0, .int .i64 0, .int .i64 0, .int .i64 0, .int .i64 0, .int .i64 0, .int .i64 0, .int .i64 0, .int .i64 0, .int .i64 0, .int .i64 0, .int .i64 0, .int .i64 0, .int .i64 0, .int .i64 0, .int .i64 0, .int .i64 0, .int .i64 0, .int .i64 0, .int .i64 0, .int .i64 0, .int .i64 0, .int .i64 0, .int .i64 0, .int .i64 0, .int .i64 0, .int .i64 0, .int .i64 0, .int .i64 0, .int .i64 0, .int .i64 0, .int .i64 0, .int .i64 0, .int .i64 0, .int .i64 0, .int .i64 0, .int .i64 0, .int .i64 0, .int .i64 0, .int .i64 0] 32)) 70 16 #[.pointer (some ⟨w3.heap.size, 0, none⟩)]
  rw [show poolLen 70 = 64 from rfl] at P
  refine P.mono ?_
  clear P
  have hsz3 := hb3.size
  have M5 := made_new w3
  have hb5 := hb3.alloc hsz3 (.cells #[.int .i64 0, .int .i64 0, .int .i64 0, .int .i64 0, .int .i64 0, .int .i64 0, .int .i64 0, .int .i64 0, .int .i64 0, .int .i64 0, .int .i64 0, .int .i64 0, .int .i64 0, .int .i64 0, .int .i64 0, .int .i64 0, .int .i64 0, .int .i64 0, .int .i64 0, .int .i64 0, .int .i64 0, .int .i64 0, .int .i64 0, .int .i64 0, .int .i64 0, .int .i64 0, .int .i64 0, .int .i64 0, .int .i64 0, .int .i64 0, .int .i64 0, .int .i64 0, .int .i64 0, .int .i64 0, .int .i64 0, .int .i64 0, .int .i64 0, .int .i64 0, .int .i64 0, .int .i64 0, .int .i64 0, .int .i64 0, .int .i64 0, .int .i64 0, .int .i64 0, .int .i64 0, .int .i64 0, .int .i64 0, .int .i64 0, .int .i64 0, .int .i64 0, .int .i64 0, .int .i64 0, .int .i64 0, .int .i64 0, .int .i64 0, .int .i64 0, .int .i64 0, .int .i64 0, .int .i64 0, .int .i64 0, .int .i64 0, .int .i64 0, .int .i64 0] 32)
  have hlt3 := M5.lt
  generalize w3.alloc (.cells #[.int .i64 0, .int .i64 0, .int .i64 0, .int .i64 0, .int .i64 0, .int .i64 0, .int .i64 0, .int .i64 0, .int .i64 0, .int .i64 0, .int .i64 0, .int .i64 0, .int .i64 0, .int .i64 0, .int .i64 0, .int .i64 0, .int .i64 0, .int .i64 0, .int .i64 0, .int .i64 0, .int .i64 0, .int .i64 0, .int .i64 0, .int .i64 0, .int .i64 0, .int .i64 0, .int .i64 0, .int .i64 0, .int .i64 0, .int .i64 0, .int .i64 0, .int .i64 0, .int .i64 0, .int .i64 0, .int .i64 0, .int .i64 0, .int .i64 0, .int .i64 0, .int .i64 0, .int .i64 0, .int .i64 0, .int .i64 0, .int .i64 0, .int .i64 0, .int .i64 0, .int .i64 0, .int .i64 0, .int .i64 0, .int .i64 0, .int .i64 0, .int .i64 0, .int .i64 0, .int .i64 0, .int .i64 0, .int .i64 0, .int .i64 0, .int .i64 0, .int .i64 0, .int .i64 0, .int .i64 0, .int .i64 0, .int .i64 0, .int .i64 0, .int .i64 0] 32) = w5 at *
  rintro e w6 ⟨A6, c6, gs, rfl, hgl, o6, P6, hb6⟩
  have M6 := M5.past hb6
  have hsz5 := hb5.size
  have hb6' := hb5.trans (hb6.mono hsz5)
  have hsz6 := hb6'.size
  obtain ⟨g6, rfl, hg6, hg6l⟩ := own_some o6 (by omega)
  have S6 : PoolSt w5.heap.size (poolMk w3.heap.size) gs (fun _ => false) w6 := fun i g hg => by simpa using P6.1 i g hg
  have hgB : ∀ i g, gs[i]? = some g → w5.heap.size ≤ g := fun i g hg => by
    obtain ⟨_, _, _, _, _, h, _⟩ := P6.1 i g hg
    exact h
  have hnd := P6.2
  have hlt6 := hb6.size
  clear P6 M5 hb3 hb5 hb6
  go_wp2_with fail
  have a7 := asked_new w6
  have hb7 := hb6'.alloc hsz6 (.cells #[.bool false, .bool false, .bool false, .bool false, .bool false, .bool false, .bool false, .bool false, .bool false, .bool false, .bool false, .bool false, .bool false, .bool false, .bool false, .bool false, .bool false, .bool false, .bool false, .bool false, .bool false, .bool false, .bool false, .bool false, .bool false, .bool false, .bool false, .bool false, .bool false, .bool false, .bool false, .bool false, .bool false, .bool false, .bool false, .bool false, .bool false, .bool false, .bool false, .bool false, .bool false, .bool false, .bool false, .bool false, .bool false, .bool false, .bool false, .bool false, .bool false, .bool false, .bool false, .bool false, .bool false, .bool false, .bool false, .bool false, .bool false, .bool false, .bool false, .bool false, .bool false, .bool false, .bool false, .bool false] 36)
  have M7 := M6.alloc (.cells #[.bool false, .bool false, .bool false, .bool false, .bool false, .bool false, .bool false, .bool false, .bool false, .bool false, .bool false, .bool false, .bool false, .bool false, .bool false, .bool false, .bool false, .bool false, .bool false, .bool false, .bool false, .bool false, .bool false, .bool false, .bool false, .bool false, .bool false, .bool false, .bool false, .bool false, .bool false, .bool false, .bool false, .bool false, .bool false, .bool false, .bool false, .bool false, .bool false, .bool false, .bool false, .bool false, .bool false, .bool false, .bool false, .bool false, .bool false, .bool false, .bool false, .bool false, .bool false, .bool false, .bool false, .bool false, .bool false, .bool false, .bool false, .bool false, .bool false, .bool false, .bool false, .bool false, .bool false, .bool false] 36)
  have S7 := S6.past ((Below.refl _ _).alloc (Nat.le_refl _) (.cells #[.bool false, .bool false, .bool false, .bool false, .bool false, .bool false, .bool false, .bool false, .bool false, .bool false, .bool false, .bool false, .bool false, .bool false, .bool false, .bool false, .bool false, .bool false, .bool false, .bool false, .bool false, .bool false, .bool false, .bool false, .bool false, .bool false, .bool false, .bool false, .bool false, .bool false, .bool false, .bool false, .bool false, .bool false, .bool false, .bool false, .bool false, .bool false, .bool false, .bool false, .bool false, .bool false, .bool false, .bool false, .bool false, .bool false, .bool false, .bool false, .bool false, .bool false, .bool false, .bool false, .bool false, .bool false, .bool false, .bool false, .bool false, .bool false, .bool false, .bool false, .bool false, .bool false, .bool false, .bool false] 36))
  have o7 := o6.alloc (.cells #[.bool false, .bool false, .bool false, .bool false, .bool false, .bool false, .bool false, .bool false, .bool false, .bool false, .bool false, .bool false, .bool false, .bool false, .bool false, .bool false, .bool false, .bool false, .bool false, .bool false, .bool false, .bool false, .bool false, .bool false, .bool false, .bool false, .bool false, .bool false, .bool false, .bool false, .bool false, .bool false, .bool false, .bool false, .bool false, .bool false, .bool false, .bool false, .bool false, .bool false, .bool false, .bool false, .bool false, .bool false, .bool false, .bool false, .bool false, .bool false, .bool false, .bool false, .bool false, .bool false, .bool false, .bool false, .bool false, .bool false, .bool false, .bool false, .bool false, .bool false, .bool false, .bool false, .bool false, .bool false] 36)
  have r7 := h0.past hb7
  clear o6 M6 S6 hb6' h0
  go_loopw [9] (fun s9 wr => ∃ i : Nat, ∃ f, i ≤ n ∧ i ≤ 40 ∧ s9 = .int .i64 i ∧ PoolSt w5.heap.size (poolMk w3.heap.size) gs f wr ∧ Blk wr w3.heap.size 32 (ml f) ∧ Blk wr w6.heap.size 36 (bl f) ∧ wr.ownsRow w5.heap.size 24 1 (.slice (some ⟨g6, 0, none⟩) 64 c6) 64 (gs.map ptr) ∧ Rd wr w.heap.size A c 1 n (is l) ∧ Below w.heap.size w wr) (fun s9 _ => 40 - (intOf s9).toNat)
  case atStart => exact ⟨0, _, by omega, by omega, rfl, S7, M7, a7, o7, r7, hb7⟩
  case round =>
    clear S7 M7 a7 o7 r7 hb7
    obtain ⟨i, f, hi, hi40, rfl, hS, hM, hA, ho, hr, hb⟩ := hrel
    have hszr := hb.size
    by_cases q : i < n ∧ i < 40
    · obtain ⟨q1, q2⟩ := q
      obtain ⟨b, o, x, rfl, hcx, _, hxe⟩ := hr.int q1
      clear hxe
      obtain ⟨k, hk, hkx⟩ := rem_in x 64 (by omega) (by omega)
      simp only [Int.cast_ofNat_Int] at hkx
      have hk64 : k < 64 := by omega
      have hmul := mul63 hk64
      obtain ⟨g, hg⟩ : ∃ g, gs[k]? = some g := ⟨_, List.getElem?_eq_getElem (by omega)⟩
      have hac := Blk.cell hA (bl_at f hk64)
      have haz := Blk.free hA k
      have tA : Touch [w6.heap.size] wr (wr.setCell ⟨w6.heap.size, k, none⟩ (.bool true)) := Touch.of_grown (grown_set _ _ _ _)
      have hA8 := hA.set k (.bool true)
      rw [bl_set] at hA8
      have hS8 := hS.var hA k (.bool true)
      have hM8 := hM.touch tA (by simpa using Blk.ne hM hA (by decide))
      have ho8 := own_touch ho tA (by intro s hs ys hy
                                      obtain rfl : s = _ := by simpa using hs
                                      exact Blk.ne hA hy (by decide) rfl)
      have hr8 := hr.setCell (p := ⟨w6.heap.size, k, none⟩) hsz6 (.bool true)
      have hb8 : Below w.heap.size w (wr.setCell ⟨w6.heap.size, k, none⟩ (.bool true)) := hb.setCell hsz6 _
      have hcp := ho8.cellAt k (by omega)
      rw [List.getElem?_map, hg] at hcp
      have hcp' : (wr.setCell ⟨w6.heap.size, k, none⟩ (.bool true)).cell? ⟨g6, k, none⟩ = some (.pointer (some ⟨g, 0, none⟩)) := hcp
      have hcp2 := ho.cellAt k (by omega)
      rw [List.getElem?_map, hg] at hcp2
      have hcp3 : wr.cell? ⟨g6, k, none⟩ = some (.pointer (some ⟨g, 0, none⟩)) := hcp2
      clear hcp hcp2
      have hbB := hgB k g hg
      have HG := Lib.hid hg
      clear hg
      go_wp2_with fail
      have hsz8 := hb8.size
      have hsB : w5.heap.size ≤ (wr.setCell ⟨w6.heap.size, k, none⟩ (.bool true)).heap.size := by have := (Blk.lt hA); simp [World.setCell]; omega
      refine (pool_get _ w5.heap.size w3.heap.size g k gs f hsB hlt3 hnd HG.out hk64 hS8 hM8).mono ?_
      rintro e w10 ⟨w9, t9, S9, M9, Ax, nx, cx, rfl, ox, b10⟩
      obtain ⟨_, _, _, _, _, C8⟩ := hS8.cel (List.mem_of_getElem? HG.out)
      have hA10 := (hA8.touch t9 (by simp; exact ⟨Blk.ne hA8 C8 (by decide), Blk.ne hA8 hM8 (by decide)⟩)).past b10
      have ho10 := own_below (own_touch ho8 t9 (no_blk2 C8 hM8 (by decide) (by decide))) b10
      have hb9 := hb8.trans (t9.below (by simp; omega) hsz8)
      have hb10 := hb9.trans (b10.mono hb9.size)
      have hr10 := hr8.below ((t9.below (by simp; omega) hsz8).trans (b10.mono hb9.size))
      have S10 := S9.past b10
      have M10 := M9.past b10
      obtain rfl := own_len ox
      obtain ⟨gx, rfl, _, _, hat⟩ := own_at ox (by simp)
      have hx0 : w10.cell? ⟨gx, 0, none⟩ = some (.int .i64 k) := hat 0 (by simp)
      have hx1 : w10.cell? ⟨gx, 1, none⟩ = some (.int .i64 ((k : Int) * k)) := hat 1 (by simp)
      clear hat ox hcp' hcp3 hac haz hS8 hM8 hA8 ho8 hr8 hb8 hA hS hM ho hr hb t9 C8 b10
      go_wp2_with fail
      go_roundw
      case rel => exact ⟨i + 1, upd f k, by omega, by omega, by go_num, S10, M10, hA10, ho10, hr10, hb10⟩
      case measure => simp [intOf]; omega
    · have q' : ¬ i < n ∨ i < n ∧ ¬ i < 40 := by omega
      clear q
      rcases q' with q1 | ⟨q1, q2⟩
      all_goals
        go_wp2_with fail
        go_loopw [12] (fun s12 wq => ∃ i : Nat, i ≤ 64 ∧ s12 = .int .i64 i ∧ PoolSt w5.heap.size (poolMk w3.heap.size) gs f wq ∧ Blk wq w3.heap.size 32 (ml f) ∧ Blk wq w6.heap.size 36 (bl f) ∧ wq.ownsRow w5.heap.size 24 1 (.slice (some ⟨g6, 0, none⟩) 64 c6) 64 (gs.map ptr) ∧ Below w.heap.size w wq) (fun s12 _ => 64 - (intOf s12).toNat)
        case atStart => exact ⟨0, by omega, rfl, hS, hM, hA, ho, hb⟩
        case round =>
          clear hS hM hA ho hr hb hszr q1 hi hi40
          obtain ⟨j, hj, rfl, hS, hM, hA, ho, hb⟩ := hrel
          by_cases hjm : j < 64
          · have hj64 : j < 64 := by omega
            obtain ⟨g, hg⟩ : ∃ g, gs[j]? = some g := ⟨_, List.getElem?_eq_getElem (by omega)⟩
            have ha := Blk.cell hA (bl_at f hj64)
            have hm := Blk.cell hM (ml_at f hj64)
            have hcp := ho.cellAt j (by omega)
            rw [List.getElem?_map, hg] at hcp
            have hcp' : wr.cell? ⟨g6, j, none⟩ = some (.pointer (some ⟨g, 0, none⟩)) := hcp
            clear hcp
            have HG := Lib.hid hg
            clear hg
            have D := PoolSt.done (w := wr.drew) hS HG.out
            have hlA := Blk.lt hA
            have hlM := Blk.lt hM
            have hl6 : g6 < wr.heap.size := by omega
            cases hf : f j
            · rw [hf] at ha hm D
              simp only [Bool.false_eq_true, if_false] at hm
              have HF := Lib.hid hf; clear hf
              have HD := Lib.hid D; clear D
              go_wp2_with fail
-- REGION curfew/curfewlaw6.OncePool 26 pool26f64 14
              refine Hb.begin ?_
              refine Hb.take (v := .int .i64 (j : Nat)) 0 87 rfl ?_ (fun _ _ => rfl)
              refine Hb.take (v := .pointer (some ⟨w3.heap.size, j, none⟩)) 1 88 rfl ?_ (fun w' hw' => by go_simp; first | done | rfl | omega | exact wrap_in (by omega) (by omega) | exact Int.tmod_eq_emod_of_nonneg (by omega) | exact Int.tdiv_eq_ediv_of_nonneg (by omega) | (simp; omega))
              refine Hb.take (v := .int .i64 0) 2 89 rfl ?_ (fun w' hw' => by have hc := (hw'.cell (p := ⟨w3.heap.size, j, none⟩) hlM).trans hm; go_simp)
              refine Hb.take (v := .int .i64 0) 3 90 rfl ?_ (fun _ _ => rfl)
              refine Hb.take (v := .bool false) 4 91 rfl ?_ (fun w' hw' => by go_simp; first | done | rfl | omega | exact wrap_in (by omega) (by omega) | exact Int.tmod_eq_emod_of_nonneg (by omega) | exact Int.tdiv_eq_ediv_of_nonneg (by omega) | (simp; omega))
              refine Hb.take (v := .bool false) 5 92 rfl ?_ (fun _ _ => rfl)
              refine Hb.take (v := .slice (some ⟨g6, 0, none⟩) 64 c6) 6 93 rfl ?_ (fun _ _ => rfl)
              refine Hb.take (v := .int .i64 (j : Nat)) 7 94 rfl ?_ (fun _ _ => rfl)
              refine Hb.take (v := .pointer (some ⟨g6, j, none⟩)) 8 95 rfl ?_ (fun w' hw' => by go_simp; first | done | rfl | omega | exact wrap_in (by omega) (by omega) | exact Int.tmod_eq_emod_of_nonneg (by omega) | exact Int.tdiv_eq_ediv_of_nonneg (by omega) | (simp; omega))
              refine Hb.take (v := .pointer (some ⟨g, 0, none⟩)) 9 96 rfl ?_ (fun w' hw' => by have hc := (hw'.cell (p := ⟨g6, j, none⟩) hl6).trans hcp'; go_simp)
              refine Hb.take (v := .int .i64 (j : Nat)) 11 98 rfl ?_ (fun _ _ => rfl)
              refine Hb.take (v := .pointer (some ⟨w6.heap.size, j, none⟩)) 12 99 rfl ?_ (fun w' hw' => by go_simp; first | done | rfl | omega | exact wrap_in (by omega) (by omega) | exact Int.tmod_eq_emod_of_nonneg (by omega) | exact Int.tdiv_eq_ediv_of_nonneg (by omega) | (simp; omega))
              refine Hb.take (v := .bool false) 13 100 rfl ?_ (fun w' hw' => by have hc := (hw'.cell (p := ⟨w6.heap.size, j, none⟩) hlA).trans ha; go_simp)
              refine Hb.call (f := 11) (args := #[.pointer (some ⟨g, 0, none⟩)]) 10 97 rfl ?_ (run_callf Try.func11 (by kernel_rfl) (by kernel_rfl) (by simp only [List.map_toArray, List.map_cons, List.map_nil]; rfl))
              refine HD.out.mono ?_
              rintro e w' ⟨rfl, rfl⟩
              refine Hb.back (Below.refl _ _) (Nat.le_refl _) ?_
              refine Hb.take (v := .bool false) 14 101 rfl ?_ (fun w' hw' => by go_simp; first | done | rfl | omega | exact wrap_in (by omega) (by omega) | exact Int.tmod_eq_emod_of_nonneg (by omega) | exact Int.tdiv_eq_ediv_of_nonneg (by omega) | (simp; omega))
              refine Hb.take (v := .bool false) 15 102 rfl ?_ (fun _ _ => rfl)
              refine Hb.done ?_
-- END
              go_wp2_with fail
              go_roundw
              case rel => exact ⟨j + 1, by omega, by go_num, hS, hM, hA, ho, hb.drew⟩
              case measure => simp [intOf]; omega
            · rw [hf] at ha hm D
              simp only [if_true] at hm
              have HF := Lib.hid hf; clear hf
              have HD := Lib.hid D; clear D
              go_wp2_with fail
-- REGION curfew/curfewlaw6.OncePool 26 pool26t64 14
              refine Hb.begin ?_
              refine Hb.take (v := .int .i64 (j : Nat)) 0 87 rfl ?_ (fun _ _ => rfl)
              refine Hb.take (v := .pointer (some ⟨w3.heap.size, j, none⟩)) 1 88 rfl ?_ (fun w' hw' => by go_simp; first | done | rfl | omega | exact wrap_in (by omega) (by omega) | exact Int.tmod_eq_emod_of_nonneg (by omega) | exact Int.tdiv_eq_ediv_of_nonneg (by omega) | (simp; omega))
              refine Hb.take (v := .int .i64 1) 2 89 rfl ?_ (fun w' hw' => by have hc := (hw'.cell (p := ⟨w3.heap.size, j, none⟩) hlM).trans hm; go_simp)
              refine Hb.take (v := .int .i64 1) 3 90 rfl ?_ (fun _ _ => rfl)
              refine Hb.take (v := .bool false) 4 91 rfl ?_ (fun w' hw' => by go_simp; first | done | rfl | omega | exact wrap_in (by omega) (by omega) | exact Int.tmod_eq_emod_of_nonneg (by omega) | exact Int.tdiv_eq_ediv_of_nonneg (by omega) | (simp; omega))
              refine Hb.take (v := .bool false) 5 92 rfl ?_ (fun _ _ => rfl)
              refine Hb.take (v := .slice (some ⟨g6, 0, none⟩) 64 c6) 6 93 rfl ?_ (fun _ _ => rfl)
              refine Hb.take (v := .int .i64 (j : Nat)) 7 94 rfl ?_ (fun _ _ => rfl)
              refine Hb.take (v := .pointer (some ⟨g6, j, none⟩)) 8 95 rfl ?_ (fun w' hw' => by go_simp; first | done | rfl | omega | exact wrap_in (by omega) (by omega) | exact Int.tmod_eq_emod_of_nonneg (by omega) | exact Int.tdiv_eq_ediv_of_nonneg (by omega) | (simp; omega))
              refine Hb.take (v := .pointer (some ⟨g, 0, none⟩)) 9 96 rfl ?_ (fun w' hw' => by have hc := (hw'.cell (p := ⟨g6, j, none⟩) hl6).trans hcp'; go_simp)
              refine Hb.take (v := .int .i64 (j : Nat)) 11 98 rfl ?_ (fun _ _ => rfl)
              refine Hb.take (v := .pointer (some ⟨w6.heap.size, j, none⟩)) 12 99 rfl ?_ (fun w' hw' => by go_simp; first | done | rfl | omega | exact wrap_in (by omega) (by omega) | exact Int.tmod_eq_emod_of_nonneg (by omega) | exact Int.tdiv_eq_ediv_of_nonneg (by omega) | (simp; omega))
              refine Hb.take (v := .bool true) 13 100 rfl ?_ (fun w' hw' => by have hc := (hw'.cell (p := ⟨w6.heap.size, j, none⟩) hlA).trans ha; go_simp)
              refine Hb.call (f := 11) (args := #[.pointer (some ⟨g, 0, none⟩)]) 10 97 rfl ?_ (run_callf Try.func11 (by kernel_rfl) (by kernel_rfl) (by simp only [List.map_toArray, List.map_cons, List.map_nil]; rfl))
              refine HD.out.mono ?_
              rintro e w' ⟨rfl, rfl⟩
              refine Hb.back (Below.refl _ _) (Nat.le_refl _) ?_
              refine Hb.take (v := .bool false) 14 101 rfl ?_ (fun w' hw' => by go_simp; first | done | rfl | omega | exact wrap_in (by omega) (by omega) | exact Int.tmod_eq_emod_of_nonneg (by omega) | exact Int.tdiv_eq_ediv_of_nonneg (by omega) | (simp; omega))
              refine Hb.take (v := .bool false) 15 102 rfl ?_ (fun _ _ => rfl)
              refine Hb.done ?_
-- END
              go_wp2_with fail
              go_roundw
              case rel => exact ⟨j + 1, by omega, by go_num, hS, hM, hA, ho, hb.drew⟩
              case measure => simp [intOf]; omega
          · obtain rfl : j = 64 := by omega
            go_wp2_with fail
            go_ret
            exact ⟨rfl, hb⟩
end Go.Proofs.Ythffglfckcickaa
