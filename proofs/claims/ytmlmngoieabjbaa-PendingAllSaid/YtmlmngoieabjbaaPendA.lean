/- The library's DeleteFunc at entries that stand in the midst of a block; pending's has, its closures. -/
import Derived.Test.YtmlmngoieabjbaaPend
import Derived.Test.YtmlmngoieabjbaaEntF
import Derived.Deep.MidRow
namespace Go.Proofs.Ytmlmngoieabjbaa
open Go.RowKit PPend

theorem Blk.entCells {w : World} {g : Nat} {e : TypeId} {Y Q : List Value} {W : List Ent} (h : Blk w g e (Y ++ (els W ++ Q))) {o i : Nat} {x : Ent} (ho : Y.length = o) (hx : W[i]? = some x) :
    w.cell? ⟨g, o + i * 7, none⟩ = some (.int .i64 x.fr) ∧ w.cell? ⟨g, o + i * 7 + 1, none⟩ = some (.int .i64 x.boot) ∧ w.cell? ⟨g, o + i * 7 + 2, none⟩ = some (.int .i64 x.seq) ∧ w.cell? ⟨g, o + i * 7 + 3, none⟩ = some (.int .i64 x.ord) ∧
    w.cell? ⟨g, o + i * 7 + 4, none⟩ = some (.int .i64 x.lev) ∧ w.cell? ⟨g, o + i * 7 + 5, none⟩ = some (.int .i64 x.stamp) ∧ w.cell? ⟨g, o + i * 7 + 6, none⟩ = some (.string x.data) := by
  have r := h.entRange ho hx
  exact ⟨r 0 _ rfl, r 1 _ rfl, r 2 _ rfl, r 3 _ rfl, r 4 _ rfl, r 5 _ rfl, r 6 _ rfl⟩

set_option maxHeartbeats 8000000 in
set_option maxRecDepth 100000 in
theorem deleE_c (w : World) (g o n c : Nat) (t : TypeId) (Y Q : List Value) (W : List Ent) (hB : Blk w g t (Y ++ (els W ++ Q))) (ho : Y.length = o) (hn : n ≤ W.length) (hc : n ≤ c) (hm : c ≤ maxLen)
    (G : FuncId) (cb : Array Value) (p : Ent → Bool) (eg : ∀ args w, (callFunc G args).run Try.prog w = .ok (.enter G args) w)
    (hG : ∀ W' (x : Ent), Touch [g] w W' → Calls Try.prog G (#[ev x] ++ cb) W' fun e W'' => e = .returned (.bool (p x)) ∧ Below W'.heap.size W' W'') :
    Calls Try.prog 22 #[.slice (some ⟨g, o, none⟩) n c, .func (.func G) #[] cb] w fun e w' =>
      ∃ V : List Ent, e = .returned (.slice (some ⟨g, o, none⟩) ((W.take n).filter (fun x => !p x)).length c) ∧ V.length = W.length ∧ V.take ((W.take n).filter (fun x => !p x)).length = (W.take n).filter (fun x => !p x) ∧ Blk w' g t (Y ++ (els V ++ Q)) ∧ Touch [g] w w' := by
  have HI := Lib.hid (indexE2_c w w.heap.size (some ⟨g, o, none⟩) c n (W.take n) (hB.entsRd ho hn hc hm) G cb p eg (fun W' x hb => hG W' x (.of_below hb)))
  have HG := Lib.hid hG
  have HB := Lib.hid hB
  have HO := Lib.hid ho
  have HM := Lib.hid hm
  have hn9 : n ≤ 9223372036854775807 := by unfold maxLen at hm; omega
  clear hB hG ho hm
  go_enter Try.func22, Try.ntmps22
  go_wp2_with fail
  refine HI.out.mono ?_
  clear HI
  rintro e w1 ⟨⟨i, rfl, hi, ha, hp⟩ | ⟨rfl, ha⟩, b1⟩
  · have M0 := Lib.hid (show Mid p W W i (i + 1) from Mid.first (by omega) (by rw [List.take_take, Nat.min_eq_left (by omega)] at ha; exact ha) (by rw [List.getElem?_take_of_lt hi] at hp; exact hp))
    have h0 : (i : Int) ≠ -1 := by omega
    have B1 := Lib.hid (show Blk w1 g t (Y ++ (els W ++ Q)) from HB.out.past b1)
    have T1 := Lib.hid (show Touch [g] w w1 from .of_below b1)
    clear ha hp b1 HB
    go_wp2_with fail
    rw [show ((i : Int) == -1) = false by simp only [beq_eq_false_iff_ne]; omega]
    clear h0
    go_loopw [5, 6] (fun s5 s6 wr => ∃ (i j : Nat) (V : List Ent), s5 = .int .i64 i ∧ s6 = .int .i64 j ∧ i < j ∧ j ≤ n ∧ Hid (Mid p W V i j) ∧ Hid (Blk wr g t (Y ++ (els V ++ Q))) ∧ Hid (Touch [g] w wr)) (fun _ s6 _ => n - (intOf s6).toNat)
    case atStart => exact ⟨i, i + 1, W, rfl, by go_num, by omega, by omega, M0, B1, T1⟩
    case round =>
      obtain ⟨i, j, V, rfl, rfl, hij, hj, MD, BW, TW⟩ := hrel
      clear M0 B1 T1
      rcases Nat.lt_or_ge j n with hjn | hjn
      · obtain ⟨x, hx⟩ : ∃ x, W[j]? = some x := ⟨W[j], List.getElem?_eq_getElem (by omega)⟩
        obtain ⟨d0, d1, d2, d3, d4, d5, d6⟩ := BW.out.entCells HO.out (MD.out.at hx)
        have KX := Lib.hid (Blk.newEnt wr 35 x)
        obtain ⟨f0, f1, f2, f3, f4, f5, f6⟩ := KX.out.ent
        have TX := Lib.hid (TW.out.alloc (.cells #[.int .i64 x.fr, .int .i64 x.boot, .int .i64 x.seq, .int .i64 x.ord, .int .i64 x.lev, .int .i64 x.stamp, .string x.data] 35))
        have BX := Lib.hid (BW.out.alloc (.cells #[.int .i64 x.fr, .int .i64 x.boot, .int .i64 x.seq, .int .i64 x.ord, .int .i64 x.lev, .int .i64 x.stamp, .string x.data] 35))
        have HC := Lib.hid (HG.out (wr.alloc (.cells #[.int .i64 x.fr, .int .i64 x.boot, .int .i64 x.seq, .int .i64 x.ord, .int .i64 x.lev, .int .i64 x.stamp, .string x.data] 35)) x TX.out)
        have HX := Lib.hid hx
        have hsz : wr.heap.size < (wr.alloc (.cells #[.int .i64 x.fr, .int .i64 x.boot, .int .i64 x.seq, .int .i64 x.ord, .int .i64 x.lev, .int .i64 x.stamp, .string x.data] 35)).heap.size := KX.out.lt
        clear hx BW TW
        cases hp : p x
        · rw [hp] at HC
          have MK := Lib.hid (MD.out.keep HX.out hp)
          clear hp
          go_wp2_with fail
          clear d0 d1 d2 d3 d4 d5 d6 f0 f1 f2 f3 f4 f5 f6
          generalize wr.alloc (.cells #[.int .i64 x.fr, .int .i64 x.boot, .int .i64 x.seq, .int .i64 x.ord, .int .i64 x.lev, .int .i64 x.stamp, .string x.data] 35) = w2 at *
          refine HC.out.mono ?_
          rintro e w3 ⟨rfl, b3⟩
          obtain ⟨f0, f1, f2, f3, f4, f5, f6⟩ := (KX.out.past b3).ent
          have B3 := Lib.hid (BX.out.past b3)
          have T3 := Lib.hid (TX.out.trans (.of_below b3))
          have H3 := Lib.hid (show w3.there g (o + i * 7) 7 from B3.out.entThere HO.out (by have := MD.out.len; omega))
          have BS := Lib.hid (B3.out.entSet HO.out (show i < V.length by have := MD.out.len; omega) x)
          have TS := Lib.hid (T3.out.trans (grown_cells w3 g (ecs x) (o + i * 7)))
          clear b3
          go_wp2_with ((with_reducible show wpList _ _ _ ((⟨none, Op.store 35 (.tmp 33) (.tmp 32), _, _, _, _⟩ : Oper) :: _) _ _); go_must (refine wpList_store_mid rfl 35 (.tmp 33) (.tmp 32) rfl g (o + i * 7) #[.int .i64 x.fr, .int .i64 x.boot, .int .i64 x.seq, .int .i64 x.ord, .int .i64 x.lev, .int .i64 x.stamp, .string x.data] rfl rfl H3.out (by kernel_rfl) (all_oneCell_toArray (ecs_one x)) ?_))
          go_roundw
          case rel => exact ⟨i + 1, j + 1, V.set i x, by go_num, by go_num, by omega, by omega, MK, BS, TS⟩
          case measure => simp [intOf]; omega
        · rw [hp] at HC
          have MK := Lib.hid (MD.out.skip HX.out hp)
          clear hp
          go_wp2_with fail
          clear d0 d1 d2 d3 d4 d5 d6 f0 f1 f2 f3 f4 f5 f6
          generalize wr.alloc (.cells #[.int .i64 x.fr, .int .i64 x.boot, .int .i64 x.seq, .int .i64 x.ord, .int .i64 x.lev, .int .i64 x.stamp, .string x.data] 35) = w2 at *
          refine HC.out.mono ?_
          rintro e w3 ⟨rfl, b3⟩
          have B3 := Lib.hid (BX.out.past b3)
          have T3 := Lib.hid (TX.out.trans (.of_below b3))
          clear b3
          go_wp2_with fail
          go_roundw
          case rel => exact ⟨i, j + 1, V, rfl, by go_num, by omega, by omega, MK, B3, T3⟩
          case measure => simp [intOf]; omega
      · obtain rfl : j = n := by omega
        have EI := Lib.hid MD.out.end
        have HD := Lib.hid MD.out.head
        have VL := Lib.hid MD.out.len
        go_wp2_with (first
          | ((with_reducible show wpList _ _ _ ((⟨some 38, Op.slice _ _ _ _ _, _, _, _, _⟩ : Oper) :: _) _ _); go_must (refine wpList_hind rfl 23 (.tmp 36) (.tmp 37) rfl 35 _ 7 64 Try.underlying23 ent_info g o c j i rfl rfl hij hc ?_))
          | ((with_reducible show wpList _ _ _ ((⟨none, Op.call _, _, _, _, _⟩ : Oper) :: _) _ _); go_must (refine wpList_clearE rfl (.tmp 38) rfl g o i (j - i) (c - i) rfl (by omega) BW.out HO.out (by rw [VL.out]; omega) ?_; rintro w4 V4 hl4 ht4 hb4 t4))
          | ((with_reducible show wpList _ _ _ ((⟨some 41, Op.slice _ _ _ _ _, _, _, _, _⟩ : Oper) :: _) _ _); go_must (refine wpList_headS rfl 23 (.tmp 39) (.tmp 40) rfl 35 _ 7 64 Try.underlying23 ent_info (some ⟨g, o, none⟩) c j i rfl rfl (by omega) ?_)))
        go_ret
        exact ⟨V4, by rw [← EI.out]; rfl, hl4.trans VL.out, by rw [← EI.out, ht4, HD.out], hb4, TW.out.trans t4⟩
  · have e1 : ((W.take n).filter (fun x => !p x)) = W.take n := List.filter_eq_self.2 fun e hm => by
      rw [List.any_eq_false] at ha
      simpa using ha e hm
    have e2 : (W.take n).length = n := by rw [List.length_take, Nat.min_eq_left hn]
    have R := Lib.hid (show ∃ V : List Ent, Ending.returned (.slice (some ⟨g, o, none⟩) n c) = .returned (.slice (some ⟨g, o, none⟩) ((W.take n).filter (fun x => !p x)).length c) ∧ V.length = W.length ∧ V.take ((W.take n).filter (fun x => !p x)).length = (W.take n).filter (fun x => !p x) ∧ Blk w1 g t (Y ++ (els V ++ Q)) ∧ Touch [g] w w1 from
      ⟨W, by rw [e1, e2], rfl, by rw [e1, e2], HB.out.past b1, .of_below b1⟩)
    clear ha b1 HB e1 e2
    go_wp2_with fail
    go_ret
    exact R.out
end Go.Proofs.Ytmlmngoieabjbaa
