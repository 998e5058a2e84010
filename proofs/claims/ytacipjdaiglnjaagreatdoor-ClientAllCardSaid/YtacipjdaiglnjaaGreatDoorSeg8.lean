/- The library's DeleteFunc at entries that stand in the midst of a block; pending's has, its closures. -/
import Derived.Test.YtacipjdaiglnjaaGreatDoorSeg7
import Derived.Test.YtacipjdaiglnjaaGreatDoorSeg3
import Derived.Deep.MidRow
import Derived.BigRegion
import Derived.Deep.RegionWith
import Derived.Tactics2
import Derived.Test.YtacipjdaiglnjaaGreatDoorSeg2
import Derived.Test.YtacipjdaiglnjaaGreatDoorSeg4
import Derived.Maps.OwnSet
import Derived.DeepKeys4
import Derived.WalkSpells
namespace Go.Proofs.YtacipjdaiglnjaaGreatDoor
open Go.RowKit PPend

theorem Blk.entCells {w : World} {g : Nat} {e : TypeId} {Y Q : List Value} {W : List Ent} (h : Blk w g e (Y ++ (els W ++ Q))) {o i : Nat} {x : Ent} (ho : Y.length = o) (hx : W[i]? = some x) :
    w.cell? ⟨g, o + i * 7, none⟩ = some (.int .i64 x.fr) ∧ w.cell? ⟨g, o + i * 7 + 1, none⟩ = some (.int .i64 x.boot) ∧ w.cell? ⟨g, o + i * 7 + 2, none⟩ = some (.int .i64 x.seq) ∧ w.cell? ⟨g, o + i * 7 + 3, none⟩ = some (.int .i64 x.ord) ∧
    w.cell? ⟨g, o + i * 7 + 4, none⟩ = some (.int .i64 x.lev) ∧ w.cell? ⟨g, o + i * 7 + 5, none⟩ = some (.int .i64 x.stamp) ∧ w.cell? ⟨g, o + i * 7 + 6, none⟩ = some (.string x.data) := by
  have r := h.entRange ho hx
  exact ⟨r 0 _ rfl, r 1 _ rfl, r 2 _ rfl, r 3 _ rfl, r 4 _ rfl, r 5 _ rfl, r 6 _ rfl⟩

set_option maxHeartbeats 8000000 in
set_option maxRecDepth 100000 in
theorem deleE_c (w : World) (g o n c : Nat) (t : TypeId) (Y Q : List Value) (W : List Ent) (hB : Blk w g t (Y ++ (els W ++ Q))) (ho : Y.length = o) (hn : n ≤ W.length) (hc : n ≤ c) (hm : c ≤ maxLen)
    (G : FuncId) (cb : Array Value) (p : Ent → Bool) (eg : ∀ args w, (callFunc G args).run Tryz.prog w = .ok (.enter G args) w)
    (hG : ∀ W' (x : Ent), Touch [g] w W' → Calls Tryz.prog G (#[ev x] ++ cb) W' fun e W'' => e = .returned (.bool (p x)) ∧ Below W'.heap.size W' W'') :
    Calls Tryz.prog 123 #[.slice (some ⟨g, o, none⟩) n c, .func (.func G) #[] cb] w fun e w' =>
      ∃ V : List Ent, e = .returned (.slice (some ⟨g, o, none⟩) ((W.take n).filter (fun x => !p x)).length c) ∧ V.length = W.length ∧ V.take ((W.take n).filter (fun x => !p x)).length = (W.take n).filter (fun x => !p x) ∧ Blk w' g t (Y ++ (els V ++ Q)) ∧ Touch [g] w w' := by
  have HI := Lib.hid (indexE2_c w w.heap.size (some ⟨g, o, none⟩) c n (W.take n) (hB.entsRd ho hn hc hm) G cb p eg (fun W' x hb => hG W' x (.of_below hb)))
  have HG := Lib.hid hG
  have HB := Lib.hid hB
  have HO := Lib.hid ho
  have HM := Lib.hid hm
  have hn9 : n ≤ 9223372036854775807 := by unfold maxLen at hm; omega
  clear hB hG ho hm
  go_enter Tryz.func123, Tryz.ntmps123
  go_wp2_with fail
  refine HI.out.mono ?_
  clear HI
  rintro e w1 ⟨⟨i, rfl, hi, ha, hp⟩ | ⟨rfl, ha⟩, b1⟩
  · have M0 := Lib.hid (show Mid p W W i (i + 1) from Mid.first (by omega) (by rw [List.take_take, Nat.min_eq_left (by omega)] at ha; exact ha) (by rw [List.getElem?_take_of_lt hi] at hp; exact hp))
    have h0 : (i : Int) ≠ -1 := by omega
    have B1 := Lib.hid (show Blk w1 g t (Y ++ (els W ++ Q)) from HB.out.past b1)
    have T1 := Lib.hid (show Touch [g] w w1 from .of_below b1)
    clear ha hp b1 HB
    go_wp2_with fail
    rw [show ((i : Int) == -1) = false by simp only [beq_eq_false_iff_ne]; omega]
    clear h0
    go_loopw [5, 6] (fun s5 s6 wr => ∃ (i j : Nat) (V : List Ent), s5 = .int .i64 i ∧ s6 = .int .i64 j ∧ i < j ∧ j ≤ n ∧ Hid (Mid p W V i j) ∧ Hid (Blk wr g t (Y ++ (els V ++ Q))) ∧ Hid (Touch [g] w wr)) (fun _ s6 _ => n - (intOf s6).toNat)
    case atStart => exact ⟨i, i + 1, W, rfl, by go_num, by omega, by omega, M0, B1, T1⟩
    case round =>
      obtain ⟨i, j, V, rfl, rfl, hij, hj, MD, BW, TW⟩ := hrel
      clear M0 B1 T1
      rcases Nat.lt_or_ge j n with hjn | hjn
      · obtain ⟨x, hx⟩ : ∃ x, W[j]? = some x := ⟨W[j], List.getElem?_eq_getElem (by omega)⟩
        obtain ⟨d0, d1, d2, d3, d4, d5, d6⟩ := BW.out.entCells HO.out (MD.out.at hx)
        have KX := Lib.hid (Blk.newEnt wr 93 x)
        obtain ⟨f0, f1, f2, f3, f4, f5, f6⟩ := KX.out.ent
        have TX := Lib.hid (TW.out.alloc (.cells #[.int .i64 x.fr, .int .i64 x.boot, .int .i64 x.seq, .int .i64 x.ord, .int .i64 x.lev, .int .i64 x.stamp, .string x.data] 93))
        have BX := Lib.hid (BW.out.alloc (.cells #[.int .i64 x.fr, .int .i64 x.boot, .int .i64 x.seq, .int .i64 x.ord, .int .i64 x.lev, .int .i64 x.stamp, .string x.data] 93))
        have HC := Lib.hid (HG.out (wr.alloc (.cells #[.int .i64 x.fr, .int .i64 x.boot, .int .i64 x.seq, .int .i64 x.ord, .int .i64 x.lev, .int .i64 x.stamp, .string x.data] 93)) x TX.out)
        have HX := Lib.hid hx
        have hsz : wr.heap.size < (wr.alloc (.cells #[.int .i64 x.fr, .int .i64 x.boot, .int .i64 x.seq, .int .i64 x.ord, .int .i64 x.lev, .int .i64 x.stamp, .string x.data] 93)).heap.size := KX.out.lt
        clear hx BW TW
        cases hp : p x
        · rw [hp] at HC
          have MK := Lib.hid (MD.out.keep HX.out hp)
          clear hp
          go_wp2_with fail
          clear d0 d1 d2 d3 d4 d5 d6 f0 f1 f2 f3 f4 f5 f6
          generalize wr.alloc (.cells #[.int .i64 x.fr, .int .i64 x.boot, .int .i64 x.seq, .int .i64 x.ord, .int .i64 x.lev, .int .i64 x.stamp, .string x.data] 93) = w2 at *
          refine HC.out.mono ?_
          rintro e w3 ⟨rfl, b3⟩
          obtain ⟨f0, f1, f2, f3, f4, f5, f6⟩ := (KX.out.past b3).ent
          have B3 := Lib.hid (BX.out.past b3)
          have T3 := Lib.hid (TX.out.trans (.of_below b3))
          have H3 := Lib.hid (show w3.there g (o + i * 7) 7 from B3.out.entThere HO.out (by have := MD.out.len; omega))
          have BS := Lib.hid (B3.out.entSet HO.out (show i < V.length by have := MD.out.len; omega) x)
          have TS := Lib.hid (T3.out.trans (grown_cells w3 g (ecs x) (o + i * 7)))
          clear b3
          go_wp2_with ((with_reducible show wpList _ _ _ ((⟨none, Op.store 93 (.tmp 33) (.tmp 32), _, _, _, _⟩ : Oper) :: _) _ _); go_must (refine wpList_store_mid rfl 93 (.tmp 33) (.tmp 32) rfl g (o + i * 7) #[.int .i64 x.fr, .int .i64 x.boot, .int .i64 x.seq, .int .i64 x.ord, .int .i64 x.lev, .int .i64 x.stamp, .string x.data] rfl rfl H3.out (by kernel_rfl) (all_oneCell_toArray (ecs_one x)) ?_))
          go_roundw
          case rel => exact ⟨i + 1, j + 1, V.set i x, by go_num, by go_num, by omega, by omega, MK, BS, TS⟩
          case measure => simp [intOf]; omega
        · rw [hp] at HC
          have MK := Lib.hid (MD.out.skip HX.out hp)
          clear hp
          go_wp2_with fail
          clear d0 d1 d2 d3 d4 d5 d6 f0 f1 f2 f3 f4 f5 f6
          generalize wr.alloc (.cells #[.int .i64 x.fr, .int .i64 x.boot, .int .i64 x.seq, .int .i64 x.ord, .int .i64 x.lev, .int .i64 x.stamp, .string x.data] 93) = w2 at *
          refine HC.out.mono ?_
          rintro e w3 ⟨rfl, b3⟩
          have B3 := Lib.hid (BX.out.past b3)
          have T3 := Lib.hid (TX.out.trans (.of_below b3))
          clear b3
          go_wp2_with fail
          go_roundw
          case rel => exact ⟨i, j + 1, V, rfl, by go_num, by omega, by omega, MK, B3, T3⟩
          case measure => simp [intOf]; omega
      · obtain rfl : j = n := by omega
        have EI := Lib.hid MD.out.end
        have HD := Lib.hid MD.out.head
        have VL := Lib.hid MD.out.len
        go_wp2_with (first
          | ((with_reducible show wpList _ _ _ ((⟨some 38, Op.slice _ _ _ _ _, _, _, _, _⟩ : Oper) :: _) _ _); go_must (refine wpList_hind rfl 29 (.tmp 36) (.tmp 37) rfl 93 _ 7 64 Tryz.underlying29 ent_info g o c j i rfl rfl hij hc ?_))
          | ((with_reducible show wpList _ _ _ ((⟨none, Op.call _, _, _, _, _⟩ : Oper) :: _) _ _); go_must (refine wpList_clearE rfl (.tmp 38) rfl g o i (j - i) (c - i) rfl (by omega) BW.out HO.out (by rw [VL.out]; omega) ?_; rintro w4 V4 hl4 ht4 hb4 t4))
          | ((with_reducible show wpList _ _ _ ((⟨some 41, Op.slice _ _ _ _ _, _, _, _, _⟩ : Oper) :: _) _ _); go_must (refine wpList_headS rfl 29 (.tmp 39) (.tmp 40) rfl 93 _ 7 64 Tryz.underlying29 ent_info (some ⟨g, o, none⟩) c j i rfl rfl (by omega) ?_)))
        go_ret
        exact ⟨V4, by rw [← EI.out]; rfl, hl4.trans VL.out, by rw [← EI.out, ht4, HD.out], hb4, TW.out.trans t4⟩
  · have e1 : ((W.take n).filter (fun x => !p x)) = W.take n := List.filter_eq_self.2 fun e hm => by
      rw [List.any_eq_false] at ha
      simpa using ha e hm
    have e2 : (W.take n).length = n := by rw [List.length_take, Nat.min_eq_left hn]
    have R := Lib.hid (show ∃ V : List Ent, Ending.returned (.slice (some ⟨g, o, none⟩) n c) = .returned (.slice (some ⟨g, o, none⟩) ((W.take n).filter (fun x => !p x)).length c) ∧ V.length = W.length ∧ V.take ((W.take n).filter (fun x => !p x)).length = (W.take n).filter (fun x => !p x) ∧ Blk w1 g t (Y ++ (els V ++ Q)) ∧ Touch [g] w w1 from
      ⟨W, by rw [e1, e2], rfl, by rw [e1, e2], HB.out.past b1, .of_below b1⟩)
    clear ha b1 HB e1 e2
    go_wp2_with fail
    go_ret
    exact R.out
end Go.Proofs.YtacipjdaiglnjaaGreatDoor

/- Package pending: has, the closures, New, Len, List, Done. -/
namespace Go.Proofs.YtacipjdaiglnjaaGreatDoor
open Go.RowKit PPend

set_option maxRecDepth 100000 in
theorem phasClose_c (w : World) (k : Nat) (x e : Ent) (K : Blk w k 93 (ecs e)) :
    Calls Tryz.prog 170 #[ev x, .pointer (some ⟨k, 0, none⟩)] w fun q w' => q = .returned (.bool (PEnt.same x e)) ∧ Below w.heap.size w w' := by
  have b0 := (Below.refl w.heap.size w).alloc (Nat.le_refl _) (.cells #[.int .i64 x.fr, .int .i64 x.boot, .int .i64 x.seq, .int .i64 x.ord, .int .i64 x.lev, .int .i64 x.stamp, .string x.data] 93)
  have K1 := Blk.newEnt w 93 x
  have K2 := K.alloc (.cells #[.int .i64 x.fr, .int .i64 x.boot, .int .i64 x.seq, .int .i64 x.ord, .int .i64 x.lev, .int .i64 x.stamp, .string x.data] 93)
  obtain ⟨d0, d1, d2, d3, d4, d5, d6⟩ := K1.ent
  obtain ⟨f0, f1, f2, f3, f4, f5, f6⟩ := K2.ent
  clear K K1 K2
  show Calls _ _ #[.agg #[.int .i64 x.fr, .int .i64 x.boot, .int .i64 x.seq, .int .i64 x.ord, .int .i64 x.lev, .int .i64 x.stamp, .string x.data], _] _ _
  go_enter Tryz.func170, Tryz.ntmps170
  go_wp2_with fail
  generalize (w.alloc (.cells #[.int .i64 x.fr, .int .i64 x.boot, .int .i64 x.seq, .int .i64 x.ord, .int .i64 x.lev, .int .i64 x.stamp, .string x.data] 93)) = w1 at *
  clear d0 d1 d2 d3 d4 d5 d6 f0 f1 f2 f3 f4 f5 f6
  refine (Same_c w1 x e).mono ?_
  rintro q w2 ⟨rfl, b2⟩
  go_wp2_with fail
  go_ret
  exact ⟨rfl, b0.trans (b2.mono b0.size)⟩

set_option maxRecDepth 100000 in
theorem phas_c (w : World) (A : Option Addr) (c n : Nat) (l : List Ent) (R : Rd w w.heap.size A c 7 n (els l)) (e : Ent) :
    Calls Tryz.prog 125 #[.slice A n c, ev e] w fun x w' => x = .returned (.bool (PLog.has l e)) ∧ Below w.heap.size w w' := by
  have B1 := Lib.hid ((Below.refl w.heap.size w).alloc (Nat.le_refl _) (.cells #[.int .i64 e.fr, .int .i64 e.boot, .int .i64 e.seq, .int .i64 e.ord, .int .i64 e.lev, .int .i64 e.stamp, .string e.data] 93))
  have K1 := Lib.hid (Blk.newEnt w 93 e)
  have R1 := Lib.hid (R.alloc (.cells #[.int .i64 e.fr, .int .i64 e.boot, .int .i64 e.seq, .int .i64 e.ord, .int .i64 e.lev, .int .i64 e.stamp, .string e.data] 93))
  have eg : ∀ args w, (callFunc 170 args).run Tryz.prog w = .ok (.enter 170 args) w := enters_of Tryz.func170 (by kernel_rfl) rfl
  clear R
  show Calls _ _ #[_, .agg #[.int .i64 e.fr, .int .i64 e.boot, .int .i64 e.seq, .int .i64 e.ord, .int .i64 e.lev, .int .i64 e.stamp, .string e.data]] _ _
  go_enter Tryz.func125, Tryz.ntmps125
  go_wp2_with fail
  generalize (w.alloc (.cells #[.int .i64 e.fr, .int .i64 e.boot, .int .i64 e.seq, .int .i64 e.ord, .int .i64 e.lev, .int .i64 e.stamp, .string e.data] 93)) = w1 at *
  refine (containsE_c w1 _ A c n l R1.out 170 #[.pointer (some ⟨w.heap.size, 0, none⟩)] (fun x => PEnt.same x e) eg (fun W x hb => phasClose_c W w.heap.size x e (K1.out.past hb))).mono ?_
  rintro x w2 ⟨rfl, b2⟩
  go_wp2_with fail
  go_ret
  exact ⟨rfl, B1.out.trans (b2.mono B1.out.size)⟩

set_option maxRecDepth 100000 in
theorem pdoneClose_c (w : World) (k : Nat) (A : Option Addr) (c n : Nat) (l : List Ent) (R : Rd w w.heap.size A c 7 n (els l)) (K : Blk w k 29 [.slice A n c]) (x : Ent) :
    Calls Tryz.prog 124 #[ev x, .pointer (some ⟨k, 0, none⟩)] w fun q w' => q = .returned (.bool (PLog.has l x)) ∧ Below w.heap.size w w' := by
  have b0 := Lib.hid ((Below.refl w.heap.size w).alloc (Nat.le_refl _) (.cells #[.int .i64 x.fr, .int .i64 x.boot, .int .i64 x.seq, .int .i64 x.ord, .int .i64 x.lev, .int .i64 x.stamp, .string x.data] 93))
  have K1 := Blk.newEnt w 93 x
  have c0 := (K.alloc (.cells #[.int .i64 x.fr, .int .i64 x.boot, .int .i64 x.seq, .int .i64 x.ord, .int .i64 x.lev, .int .i64 x.stamp, .string x.data] 93)).cell (i := 0) rfl
  have R1 := Lib.hid ((R.alloc (.cells #[.int .i64 x.fr, .int .i64 x.boot, .int .i64 x.seq, .int .i64 x.ord, .int .i64 x.lev, .int .i64 x.stamp, .string x.data] 93)).tight)
  obtain ⟨d0, d1, d2, d3, d4, d5, d6⟩ := K1.ent
  clear K K1 R
  show Calls _ _ #[.agg #[.int .i64 x.fr, .int .i64 x.boot, .int .i64 x.seq, .int .i64 x.ord, .int .i64 x.lev, .int .i64 x.stamp, .string x.data], _] _ _
  go_enter Tryz.func124, Tryz.ntmps124
  go_wp2_with fail
  generalize (w.alloc (.cells #[.int .i64 x.fr, .int .i64 x.boot, .int .i64 x.seq, .int .i64 x.ord, .int .i64 x.lev, .int .i64 x.stamp, .string x.data] 93)) = w1 at *
  clear d0 d1 d2 d3 d4 d5 d6 c0
  refine (phas_c w1 A c n l R1.out x).mono ?_
  rintro q w2 ⟨rfl, b2⟩
  go_wp2_with fail
  go_ret
  exact ⟨rfl, b0.out.trans (b2.mono b0.out.size)⟩

/-- What waits, its cells all zero. -/
def pnz : List Value := pncs 0 0 0 (zeros 4) 0
theorem pnz_ne : (pnz.toArray = #[]) = False := by simp [pnz, pncs]
theorem pnz_sz : (pnz.toArray.size < 2) = False := by simp [pnz, pncs]
theorem pnz_set (fr boot : Int) : (pnz.toArray.setIfInBounds 0 (.int .i64 fr)).setIfInBounds 1 (.int .i64 boot) = (pncs fr boot 0 (zeros 4) 0).toArray := by
  rw [List.setIfInBounds_toArray, List.setIfInBounds_toArray]; rfl
theorem pn_zero (w : World) : (zeroValue 138).run Tryz.prog w = .ok (.agg pnz.toArray) w := by
  have : (Tryz.prog.info? 138).map (·.zero) = some (some (.agg pnz.toArray)) := by kernel_rfl
  cases hq : Tryz.prog.info? 138 with
  | none => simp [hq] at this
  | some i =>
    simp [hq] at this
    simp [zeroValue, typeInfo, hq, this]
theorem pnew_yes (w : World) (fr boot : Int) (h1 : 1 ≤ fr) (h2 : fr ≤ 7) (h3 : 1 ≤ boot) (h4 : boot ≤ 1099511627776) :
    Calls Tryz.prog 52 #[.int .i64 fr, .int .i64 boot] w fun e w' => e = .returned (.pointer (some ⟨w.heap.size, 0, none⟩)) ∧ Pn w' w.heap.size fr boot 0 [] ∧ Below w.heap.size w w' := by
  have hz := pn_zero
  have hn := pnz_ne
  have hs := pnz_set
  have hq := pnz_sz
  go_enter Tryz.func52, Tryz.ntmps52
  go_wp2_with fail
  go_ret
  exact ⟨rfl, ⟨zeros 4, rfl, Blk.new w _ _⟩, (Below.refl _ _).alloc (Nat.le_refl _) _⟩
/-! Of nil. -/
/-- 'waiting[:n]'. -/
theorem run_wait (w : World) (g s n : Nat) (hn : n ≤ 4) : (Instr.sliceAt 136 (.pointer (some ⟨g, s, none⟩)) none (some (.int .i64 (n : Int))) none).run Tryz.prog w = .ok (.slice (some ⟨g, s, none⟩) n 4) w := by
  have hu : Tryz.prog.underlying 136 = some (.array 4 93) := by kernel_rfl
  have hs : (sizeOf 93).run Tryz.prog w = .ok 7 w := by kernel_rfl
  have hb := run_sliceBound (P := Tryz.prog) w .i64 (n : Int) 4 .sliceAlen (by omega) (by omega)
  simp [Instr.sliceAt, Instr.sureAddr, run_underlying hu, Instr.sliceBounds, hb, Addr.add]
section
variable (w : World) (g : Nat) (fr boot seq : Int) (L : List Ent) (h : Pn w g fr boot seq L)
include h
theorem plen_c : Calls Tryz.prog 40 #[.pointer (some ⟨g, 0, none⟩)] w fun e w' => e = .returned (.int .i64 L.length) ∧ w = w' := by
  obtain ⟨Z, hl, hB⟩ := h
  have c0 := hB.cell (pncs_n hl)
  clear hB hl
  go_enter Tryz.func40, Tryz.ntmps40
  go_wp2_with fail
  go_ret
  exact ⟨rfl, rfl⟩
set_option maxRecDepth 100000 in
theorem plist_c : Calls Tryz.prog 109 #[.pointer (some ⟨g, 0, none⟩)] w fun e w' =>
    ∃ A' c', e = .returned (.slice A' L.length c') ∧ w'.ownsRow w.heap.size 93 7 (.slice A' L.length c') L.length (els L) ∧ Below w.heap.size w w' := by
  have hf := h.few
  obtain ⟨Z, hl, hB⟩ := h
  have c0 := hB.cell (pncs_n hl)
  have R := Lib.hid (show Rd w w.heap.size (some ⟨g, 3, none⟩) 4 7 L.length (els L) from by
    have := Blk.entsRd hB (o := 3) (n := L.length) (c := 4) rfl (by omega) hf (by unfold maxLen; omega)
    rwa [List.take_left] at this)
  have hs := fun W => run_wait W g 3 L.length hf
  clear hB hl
  go_enter Tryz.func109, Tryz.ntmps109
  go_wp2_with fail
  go_region_with (go_at_call 78; refine (cloneE_c w.drew _ _ _ _ L R.out.drew (by omega)).mono ?_; rintro e w2 ⟨A', c', rfl, own, bel⟩)
  go_wp2_with fail
  go_ret
  exact ⟨A', c', rfl, own, (Below.refl _ w).drew.trans bel⟩
set_option maxHeartbeats 4000000 in
set_option maxRecDepth 100000 in
theorem pdone_c (A : Option Addr) (c n : Nat) (l : List Ent) (R : Rd w w.heap.size A c 7 n (els l)) (hA : 0 < n * 7 → bk A ≠ some g) :
    Calls Tryz.prog 70 #[.pointer (some ⟨g, 0, none⟩), .slice A n c] w fun e w' => e = .returned (.int .i64 ((L.length : Int) - (left l L).length)) ∧ Pn w' g fr boot seq (left l L) ∧ Touch [g] w w' := by
  have hf := h.few
  obtain ⟨Z, hl, hB⟩ := h
  have T1 := Lib.hid (show Touch [g] w (w.alloc (.cells #[.slice A n c] 29)) from .of_below ((Below.refl w.heap.size w).alloc (Nat.le_refl _) _))
  have B1 := Lib.hid (hB.alloc (.cells #[.slice A n c] 29))
  have K1 := Lib.hid (show Blk (w.alloc (.cells #[.slice A n c] 29)) w.heap.size 29 [.slice A n c] from Blk.new w _ _)
  have R1 := Lib.hid (R.alloc (.cells #[.slice A n c] 29)).tight
  have c0 := B1.out.cell (pncs_n hl)
  have hs := fun W => run_wait W g 3 L.length hf
  have eg : ∀ args w, (callFunc 124 args).run Tryz.prog w = .ok (.enter 124 args) w := enters_of Tryz.func124 (by kernel_rfl) rfl
  have hg : g ≠ w.heap.size := Nat.ne_of_lt hB.lt
  have HL := Lib.hid hl
  clear hB hl R
  go_enter Tryz.func70, Tryz.ntmps70
  go_wp2_with fail
  have RT := Lib.hid (fun (W' : World) (ht : Touch [g] (w.alloc (.cells #[.slice A n c] 29)) W') => (show Rd W' W'.heap.size A c 7 n (els l) from (R1.out.touch ht (fun h0 s hs => by rw [List.mem_singleton] at hs; subst hs; exact hA h0)).tight))
  have KT := Lib.hid (fun (W' : World) (ht : Touch [g] (w.alloc (.cells #[.slice A n c] 29)) W') => K1.out.touch ht (fun hs => by rw [List.mem_singleton] at hs; exact hg hs.symm))
  clear K1 R1 hg
  obtain ⟨k, hk⟩ : ∃ k, w.heap.size = k := ⟨_, rfl⟩
  rw [hk] at KT ⊢
  generalize w.alloc (.cells #[.slice A n c] 29) = w1 at *
  clear hk c0
  have e1 : ((L ++ Z).take L.length).filter (fun x => !PLog.has l x) = left l L := by rw [List.take_left]; rfl
  refine (deleE_c w1 g 3 L.length 4 138 [.int .i64 fr, .int .i64 boot, .int .i64 seq] [.int .i64 L.length] (L ++ Z) B1.out rfl (by rw [List.length_append]; omega) hf (by unfold maxLen; omega)
    124 #[.pointer (some ⟨k, 0, none⟩)] (fun x => PLog.has l x) eg (fun W' x ht => pdoneClose_c W' k A c n l (RT.out W' ht) (KT.out W' ht) x)).mono ?_
  rw [e1]
  clear e1 B1 RT KT
  rintro e w2 ⟨V, rfl, hV, hd, B2, T2⟩
  have hm := left_le l L
  have hV4 := hV.trans HL.out
  have B3 : Blk w2 g 138 (pncs fr boot seq V L.length) := B2
  have c31 := B3.cell (pncs_n hV4)
  have f31 := B3.free 31
  have S3 := Lib.hid (show Blk (w2.setCell ⟨g, 31, none⟩ (.int .i64 (left l L).length)) g 138 (pncs fr boot seq V (left l L).length) from by
    have := B3.set 31 (.int .i64 (left l L).length)
    rwa [pnset_n hV4] at this)
  have c31' := S3.out.cell (pncs_n hV4)
  have eV : left l L ++ V.drop (left l L).length = V := by
    have := List.take_append_drop (left l L).length V
    rwa [hd] at this
  have PN := Lib.hid (show Pn (w2.setCell ⟨g, 31, none⟩ (.int .i64 (left l L).length)) g fr boot seq (left l L) from ⟨V.drop (left l L).length, by rw [eV]; exact hV4, by rw [eV]; exact S3.out⟩)
  have TT := Lib.hid ((T1.out.trans T2).trans (.of_grown (grown_set w2 g 31 (.int .i64 (left l L).length))))
  clear B2 B3 S3 hd hV hV4 T2 T1 eV
  generalize hmm : (left l L).length = m at *
  have HMM := Lib.hid hmm
  clear hmm
  go_wp2_with fail
  go_ret
  exact ⟨by rw [HMM.out]; rfl, PN.out, TT.out⟩
end
end Go.Proofs.YtacipjdaiglnjaaGreatDoor

/- Plain mathematics of what may be told: one way through a list, and again and again from its beginning. No program is named here. -/
namespace Go.Proofs.YtacipjdaiglnjaaGreatDoor
namespace PReady
open PEnt PLog

/-- What was told: its place, the entry. -/
abbrev Tl := Int × Ent
/-- A Same one was told. -/
def has (T : List Tl) (e : Ent) : Bool := T.any (fun t => same t.2 e)
/-- Of those ahead some were not told: one at all, a Total one, a Timed one. -/
structure Fl where
  so : Bool
  tot : Bool
  tim : Bool
def Fl.none : Fl := ⟨false, false, false⟩
def Fl.add (u : Fl) (o : Int) : Fl := ⟨true, u.tot || decide (o = 1), u.tim || decide (o = 2)⟩
def level (u : Fl) (at' commit : Int) (l : Int) : Bool := decide (l = 0) || (decide (l = 1) && decide (at' ≤ commit)) || (decide (l = 2) && decide (at' ≤ commit) && !u.so)
def held (stamp now : Int) : Bool := decide (stamp ≤ 9223372036854775804) && decide (stamp + 3 ≤ now)
def order (u : Fl) (now : Int) (o stamp : Int) : Bool := decide (o = 0) || (decide (o = 1) && !u.tot) || (decide (o = 2) && held stamp now && !u.tim)
def lets (u : Fl) (at' commit now : Int) (e : Ent) : Bool := level u at' commit e.lev && order u now e.ord e.stamp
/-- The least place of one that may be told, and it; i stand ahead. -/
def least (commit now : Int) (T : List Tl) : Nat → Fl → List Ent → Option Tl
  | _, _, [] => none
  | i, u, e :: r => if has T e then least commit now T (i + 1) u r else if lets u ((i : Int) + 1) commit now e then some ((i : Int) + 1, e) else least commit now T (i + 1) (u.add e.ord) r
/-- Those that are told on one way through. -/
def pass (commit now : Int) : Nat → Fl → List Tl → List Ent → List Tl
  | _, _, _, [] => []
  | i, u, T, e :: r => if has T e then pass commit now (i + 1) u T r else if lets u ((i : Int) + 1) commit now e then ((i : Int) + 1, e) :: pass commit now (i + 1) u (T ++ [((i : Int) + 1, e)]) r else pass commit now (i + 1) (u.add e.ord) T r
def go (commit now : Int) (T : List Tl) (l : List Ent) : List Tl := pass commit now 0 Fl.none T l
/-- The place that the program looks for: 0 if there is none. -/
def spot : Option Tl → Int
  | none => 0
  | some t => t.1

theorem has_append (T S : List Tl) (e : Ent) : has (T ++ S) e = (has T e || has S e) := by unfold has; rw [List.any_append]
theorem has_snoc (T : List Tl) (t : Tl) (e : Ent) : has (T ++ [t]) e = (has T e || same t.2 e) := by rw [has_append]; simp [has]

/-- No two that are Same. -/
def Apart (l : List Ent) : Prop := l.Pairwise (fun a b => same a b = false)
theorem same_comm (a b : Ent) : same a b = same b a := by
  simp only [same]
  have h : ∀ x y : Int, (x == y) = (y == x) := fun x y => Bool.eq_iff_iff.2 (by rw [beq_iff_eq, beq_iff_eq]; exact eq_comm)
  rw [h a.fr, h a.boot, h a.seq]

theorem pass_none {commit now : Int} {T : List Tl} : ∀ {l : List Ent} {i : Nat} {u : Fl}, least commit now T i u l = none → pass commit now i u T l = []
  | [], _, _, _ => rfl
  | e :: r, i, u, h => by
    simp only [least] at h
    simp only [pass]
    split
    · next h1 => rw [if_pos h1] at h; exact pass_none h
    · next h1 =>
      rw [if_neg h1] at h
      split
      · next h2 => rw [if_pos h2] at h; cases h
      · next h2 => rw [if_neg h2] at h; exact pass_none h
theorem least_mem {commit now : Int} {T : List Tl} : ∀ {l : List Ent} {i : Nat} {u : Fl} {t : Tl}, least commit now T i u l = some t → ∃ k : Nat, l[k]? = some t.2 ∧ t.1 = (i : Int) + k + 1 ∧ has T t.2 = false
  | e :: r, i, u, t, h => by
    simp only [least] at h
    split at h
    · obtain ⟨k, h1, h2, h3⟩ := least_mem h
      exact ⟨k + 1, by simpa using h1, by rw [h2]; omega, h3⟩
    · split at h
      · next h1 _ =>
        cases h
        exact ⟨0, rfl, by simp, by simpa using h1⟩
      · obtain ⟨k, h1, h2, h3⟩ := least_mem h
        exact ⟨k + 1, by simpa using h1, by rw [h2]; omega, h3⟩
theorem pass_some {commit now : Int} {T : List Tl} : ∀ {l : List Ent} {i : Nat} {u : Fl} {t : Tl}, Apart l → least commit now T i u l = some t → pass commit now i u T l = t :: pass commit now i u (T ++ [t]) l
  | e :: r, i, u, t, hA, h => by
    obtain ⟨hA1, hA2⟩ := List.pairwise_cons.1 hA
    simp only [least] at h
    simp only [pass]
    by_cases h1 : has T e = true
    · rw [if_pos h1] at h
      rw [if_pos h1, pass_some hA2 h, if_pos (by rw [has_snoc, h1]; rfl)]
    · rw [if_neg h1] at h
      rw [if_neg h1]
      by_cases h2 : lets u ((i : Int) + 1) commit now e = true
      · rw [if_pos h2] at h
        cases h
        rw [if_pos h2, if_pos (by rw [has_snoc, same_self]; simp)]
      · rw [if_neg h2] at h
        rw [if_neg h2, pass_some hA2 h]
        obtain ⟨k, hk, _, _⟩ := least_mem h
        have hs : same t.2 e = false := by rw [same_comm]; exact hA1 _ (List.mem_of_getElem? hk)
        have h1' : has T e = false := by simpa using h1
        rw [if_neg (by rw [has_snoc, h1', hs]; simp), if_neg h2]

theorem pass_mem {commit now : Int} : ∀ {l : List Ent} {i : Nat} {u : Fl} {T : List Tl} {t : Tl}, t ∈ pass commit now i u T l → ∃ k : Nat, l[k]? = some t.2 ∧ t.1 = (i : Int) + k + 1
  | e :: r, i, u, T, t, h => by
    simp only [pass] at h
    split at h
    · obtain ⟨k, h1, h2⟩ := pass_mem h
      exact ⟨k + 1, by simpa using h1, by rw [h2]; omega⟩
    · split at h
      · rcases List.mem_cons.1 h with rfl | h
        · exact ⟨0, rfl, by simp⟩
        · obtain ⟨k, h1, h2⟩ := pass_mem h
          exact ⟨k + 1, by simpa using h1, by rw [h2]; omega⟩
      · obtain ⟨k, h1, h2⟩ := pass_mem h
        exact ⟨k + 1, by simpa using h1, by rw [h2]; omega⟩
theorem pass_len {commit now : Int} : ∀ (l : List Ent) (i : Nat) (u : Fl) (T : List Tl), (pass commit now i u T l).length ≤ l.length
  | [], _, _, _ => by simp [pass]
  | e :: r, i, u, T => by
    simp only [pass]
    split
    · have := pass_len (commit := commit) (now := now) r (i + 1) u T; simp only [List.length_cons]; omega
    · split
      · have := pass_len (commit := commit) (now := now) r (i + 1) u (T ++ [((i : Int) + 1, e)]); simp only [List.length_cons]; omega
      · have := pass_len (commit := commit) (now := now) r (i + 1) (u.add e.ord) T; simp only [List.length_cons]; omega
theorem go_len (commit now : Int) (T : List Tl) (l : List Ent) : (go commit now T l).length ≤ l.length := pass_len _ _ _ _
theorem go_mem {commit now : Int} {T : List Tl} {l : List Ent} {t : Tl} (h : t ∈ go commit now T l) : t.2 ∈ l := by
  obtain ⟨k, hk, _⟩ := pass_mem h
  exact List.mem_of_getElem? hk
/-- A list by its parts: what the loops of both sides meet. -/
theorem least_step {commit now : Int} {T : List Tl} {l : List Ent} {i : Nat} {u : Fl} {e : Ent} (he : l[i]? = some e) : least commit now T i u (l.drop i) =
    if has T e then least commit now T (i + 1) u (l.drop (i + 1)) else if lets u ((i : Int) + 1) commit now e then some ((i : Int) + 1, e) else least commit now T (i + 1) (u.add e.ord) (l.drop (i + 1)) := by
  obtain ⟨hi, rfl⟩ := List.getElem?_eq_some_iff.1 he
  rw [List.drop_eq_getElem_cons hi]; rfl
theorem least_done {commit now : Int} {T : List Tl} {l : List Ent} {i : Nat} {u : Fl} (h : l.length ≤ i) : least commit now T i u (l.drop i) = none := by rw [List.drop_of_length_le h]; rfl
/-- One step of the program's loop: X is what was told so far. -/
theorem go_none {commit now : Int} {T X : List Tl} {l : List Ent} (hX : go commit now T l = X ++ go commit now (T ++ X) l) (h : least commit now (T ++ X) 0 Fl.none l = none) : go commit now T l = X := by
  rw [hX]
  have : go commit now (T ++ X) l = [] := pass_none h
  rw [this, List.append_nil]
theorem go_some {commit now : Int} {T X : List Tl} {l : List Ent} {t : Tl} (hA : Apart l) (hX : go commit now T l = X ++ go commit now (T ++ X) l) (h : least commit now (T ++ X) 0 Fl.none l = some t) :
    go commit now T l = (X ++ [t]) ++ go commit now (T ++ (X ++ [t])) l := by
  rw [hX]
  have : go commit now (T ++ X) l = t :: go commit now (T ++ X ++ [t]) l := pass_some hA h
  rw [this, List.append_assoc, List.append_assoc]
  rfl
theorem foldl_len : ∀ (es L : List Ent), (es.foldl PLog.add L).length ≤ L.length + es.length
  | [], _ => by simp
  | e :: r, L => by
    have h1 := foldl_len r (PLog.add L e)
    have h2 : (PLog.add L e).length ≤ L.length + 1 := by unfold PLog.add; split <;> simp
    simp only [List.foldl_cons, List.length_cons]; omega
theorem log_len (es : List Ent) : (PLog.log es).length ≤ es.length := by unfold PLog.log; have := foldl_len es []; simpa using this

end PReady
end Go.Proofs.YtacipjdaiglnjaaGreatDoor

/- What was told as cells: in slices, in a block, loaded and built. -/
namespace Go.Proofs.YtacipjdaiglnjaaGreatDoor
open Go.RowKit PReady

def tcs (t : Tl) : List Value := .int .i64 t.1 :: ecs t.2
def tldv (t : Tl) : Value := .agg #[.int .i64 t.1, .int .i64 t.2.fr, .int .i64 t.2.boot, .int .i64 t.2.seq, .int .i64 t.2.ord, .int .i64 t.2.lev, .int .i64 t.2.stamp, .string t.2.data]
def tls : List Tl → List Value
  | [] => []
  | t :: r => tcs t ++ tls r
theorem tcs_length (t : Tl) : (tcs t).length = 8 := rfl
theorem tls_length (l : List Tl) : (tls l).length = l.length * 8 := by
  induction l with
  | nil => rfl
  | cons e r ih => simp only [tls, List.length_append, tcs_length, ih, List.length_cons]; omega
theorem tls_append (a b : List Tl) : tls (a ++ b) = tls a ++ tls b := by
  induction a with
  | nil => rfl
  | cons x r ih => simp [tls, ih]
theorem tcs_one (t : Tl) : ∀ u ∈ tcs t, u.oneCell' = true := by
  intro u h
  rcases List.mem_cons.1 h with rfl | h
  · rfl
  · exact ecs_one t.2 u h
theorem tls_one (l : List Tl) : ∀ u ∈ tls l, u.oneCell' = true := by
  induction l with
  | nil => intro u h; simp [tls] at h
  | cons e r ih =>
    intro u h
    rcases List.mem_append.1 h with h | h
    · exact tcs_one e u h
    · exact ih u h
theorem tls_drop (l : List Tl) : ∀ i, (tls l).drop (i * 8) = tls (l.drop i) := by
  induction l with
  | nil => intro i; simp [tls]
  | cons e r ih =>
    intro i
    cases i with
    | zero => simp
    | succ i =>
      have h := ih i
      show (tcs e ++ tls r).drop ((i + 1) * 8) = tls (r.drop i)
      rw [← h, show (i + 1) * 8 = (tcs e).length + i * 8 by rw [tcs_length]; omega, ← List.drop_drop, List.drop_left]
theorem tls_take (l : List Tl) : ∀ i, (tls l).take (i * 8) = tls (l.take i) := by
  induction l with
  | nil => intro i; simp [tls]
  | cons e r ih =>
    intro i
    cases i with
    | zero => simp [tls]
    | succ i =>
      have h := ih i
      show (tcs e ++ tls r).take ((i + 1) * 8) = tcs e ++ tls (r.take i)
      rw [← h, show (i + 1) * 8 = (tcs e).length + i * 8 by rw [tcs_length]; omega, List.take_add, List.take_left, List.drop_left]
theorem tls_at {l : List Tl} {i : Nat} {t : Tl} (h : l[i]? = some t) {j : Nat} (hj : j < 8) : (tls l)[i * 8 + j]? = (tcs t)[j]? := by
  obtain ⟨hi, he⟩ := List.getElem?_eq_some_iff.1 h
  have h1 := tls_drop l i
  have h2 : l.drop i = t :: l.drop (i + 1) := by rw [List.drop_eq_getElem_cons hi, he]
  rw [h2] at h1
  have h3 := congrArg (fun q => q[j]?) h1
  simp only [List.getElem?_drop] at h3
  rw [h3]
  show (tcs t ++ tls (l.drop (i + 1)))[j]? = _
  rw [List.getElem?_append_left (by rw [tcs_length]; omega)]
theorem told_info : (Tryz.prog.info? 95).map (fun i => (i.zero, i.size, i.bytes)) = some (some (tldv (0, zeroE)), 8, 72) := by kernel_rfl

section
variable {w w' : World} {B c n : Nat} {A : Option Addr} {l : List Tl}
theorem Rd.tlen (h : Rd w B A c 8 n (tls l)) : l.length = n := by have := h.len; rw [tls_length] at this; omega
/-- The cells of the one at place i. -/
theorem Rd.told (h : Rd w B A c 8 n (tls l)) {i : Nat} (hi : i < n) : ∃ b o t, A = some ⟨b, o, none⟩ ∧ b < B ∧ l[i]? = some t ∧ t ∈ l ∧ w.rangeAt b (o + i * 8) (tcs t) := by
  obtain ⟨b, o, hA, hb, hc⟩ := h.flat hi (by omega)
  have hl := h.tlen
  have he : l[i]? = some l[i] := List.getElem?_eq_getElem (by omega)
  refine ⟨b, o, l[i], hA, hb, he, List.getElem_mem _, fun j v hv => ?_⟩
  have hj : j < 8 := by have := (List.getElem?_eq_some_iff.1 hv).1; rw [tcs_length] at this; exact this
  obtain ⟨u, hu, hcell⟩ := hc j hj
  rw [tls_at he hj, hv] at hu
  rw [hcell, ← hu]
theorem range_at {b o : Nat} {t : Tl} (h : w.rangeAt b o (tcs t)) : w.cell? ⟨b, o, none⟩ = some (.int .i64 t.1) := by have := h 0 _ rfl; simpa using this
theorem range_ent {b o : Nat} {t : Tl} (h : w.rangeAt b o (tcs t)) : w.rangeAt b (o + 1) (ecs t.2) := by
  intro j v hv
  have := h (j + 1) v (by simpa [tcs] using hv)
  rw [show o + 1 + j = o + (j + 1) by omega]; exact this
end
/-- A slice of what was told is loaded out of its cell. -/
theorem run_loadS {w : World} {dst : Option Tmp} {x : Operand} {ty : TypeId} {pos : String} {after : Array Edge} {guard : Option (Nat × Bool)} {ρ : Operand → Value} {p : Addr} {A : Option Addr} {n c : Nat}
    (h : w.cell? p = some (.slice A n c)) (hx : ρ x = .pointer (some p)) : (execOp ρ { dst, op := .load 28 x, type := ty, pos, after, guard }).run Tryz.prog w = .ok (.value (.slice A n c)) w := by
  go_simp
/-- An int is loaded. -/
theorem run_loadInt {w : World} {dst : Option Tmp} {x : Operand} {ty : TypeId} {pos : String} {after : Array Edge} {guard : Option (Nat × Bool)} {ρ : Operand → Value} {p : Addr} {k : Int}
    (h : w.cell? p = some (.int .i64 k)) (hx : ρ x = .pointer (some p)) : (execOp ρ { dst, op := .load 3 x, type := ty, pos, after, guard }).run Tryz.prog w = .ok (.value (.int .i64 k)) w := by
  go_simp
/-- '[]api.Told{t}' in a region that draws. -/
theorem wpList_buildT {w : World} {ops : Array Oper} {rest : List Oper} {o : Oper} {a : Act} {Q : Exit → Act → World → Prop} (hgd : o.guard = none) (x : Operand) (ho : o.op = .buildSlice 28 1 #[(0, x)]) (t : Tl) (hx : a.eval x = tldv t)
    (h : wpList Tryz.prog ops Q rest (a.put o.dst (.slice (some ⟨w.heap.size, 0, none⟩) 1 1)) (w.alloc (.cells (tcs t).toArray 95))) : wpList Tryz.prog ops Q (o :: rest) a w := by
  obtain ⟨i, hi0, hz, hk, -⟩ := info_parts told_info
  refine wpList_buildSlice hgd 28 95 1 _ ho (tcs t).toArray i (tldv (0, zeroE)) Tryz.underlying28 hi0 hz (by rw [hk]; omega) (by rw [hk]; omega) ?_ h
  rw [hk]
  have hb : (Array.range (1 * 8)).map (fun x => (tldv (0, zeroE)).cells[x % (tldv (0, zeroE)).cells.size]!) = (tcs (0, zeroE)).toArray := by kernel_rfl
  rw [hb]
  simp [Instr.fill, tldv, tcs, ecs, Value.cells, hx]
end Go.Proofs.YtacipjdaiglnjaaGreatDoor

/- The program's queue: what was told in a slice, its broadcasts as a map's keys; broadcastOf. -/
namespace Go.Proofs.YtacipjdaiglnjaaGreatDoor
open Go.RowKit PReady
open Go.Maps (Keyed)

/-- A broadcast by value, as a key. -/
def bv (e : Ent) : Value := .agg #[.int .i64 e.fr, .int .i64 e.boot, .int .i64 e.seq]
def bkey (e : Ent) : Lit := .string (keyBytes [.int .i64 e.fr, .int .i64 e.boot, .int .i64 e.seq])
theorem laidB : laidOutB Tryz.prog = true := by kernel_rfl
theorem lawB : Keyed Tryz.prog 235 := Keyed.of_law (deep_law_laid laidB (m := 2) (by omega) (of_decide_eq_true (by kernel_rfl)) (by kernel_rfl) (by kernel_rfl))
theorem zeroU (w : World) : (zeroValue 80).run Tryz.prog w = .ok (.agg #[]) w := by kernel_rfl
theorem keyTypeB : Tryz.prog.keyType 235 = true := by kernel_rfl
theorem sizeB : ∃ m, Tryz.prog.types.size = m + 1 := ⟨Tryz.prog.types.size - 1, by kernel_rfl⟩
theorem cellsB : Tryz.prog.cellsOf 235 = 3 := by kernel_rfl
theorem cellsInt : Tryz.prog.cellsOf 3 = 1 := by kernel_rfl
theorem cellsI64 : Tryz.prog.cellsOf 2 = 1 := by kernel_rfl
theorem keyOf_b {e : Ent} (h : PEnt.Fit e) : keyOf Tryz.prog 235 (bv e) = some (bkey e) := by
  obtain ⟨m, hm⟩ := sizeB
  have w0 := WalkArith.wf_i64 h.f0
  have w1 := WalkArith.wf_i64 h.f1
  have w2 := WalkArith.wf_i64 h.f2
  unfold keyOf
  rw [Tryz.underlying235]
  simp only [keyTypeB, bv, Value.formed, Tryz.underlying235, cellsB]
  rw [hm]
  simp [Program.keyLits, Tryz.underlying235, Tryz.underlying3, Tryz.underlying2, cellsB, cellsInt, cellsI64, Value.cells, w0, w1, w2, bkey]
theorem bkey_inj {a b : Ent} (ha : PEnt.Fit a) (hb : PEnt.Fit b) (h : bkey a = bkey b) : PEnt.same a b = true := by
  have h1 := keyOf_b ha
  rw [h] at h1
  have := lawB.inj h1 (keyOf_b hb)
  simp only [bv, Value.agg.injEq] at this
  have h2 : [Value.int .i64 a.fr, .int .i64 a.boot, .int .i64 a.seq] = [.int .i64 b.fr, .int .i64 b.boot, .int .i64 b.seq] := congrArg Array.toList this
  simp at h2
  simp [PEnt.same, h2]
theorem bkey_same {a b : Ent} (h : PEnt.same a b = true) : bkey a = bkey b := by
  simp only [PEnt.same, Bool.and_eq_true, beq_iff_eq] at h
  obtain ⟨⟨h1, h2⟩, h3⟩ := h
  simp [bkey, h1, h2, h3]

/-- The map M holds just the broadcasts of T. -/
def Mb (w : World) (b : Nat) (T : List Tl) : Prop := ∃ D, w.ownsMap Tryz.prog 235 (unitElem (H := Unit)) b T.length D ∧ ∀ e, PEnt.Fit e → Maps.has D (bkey e) = has T e
def Mq (w : World) (M : Value) (T : List Tl) : Prop := (M = .map none ∧ T = []) ∨ ∃ b, M = .map (some b) ∧ Mb w b T
def ml : Value → List Nat
  | .map (some b) => [b]
  | _ => []

section
variable {w w' : World} {b g : Nat} {M : Value} {T : List Tl} {F S : List Nat}
theorem Mb.lt (h : Mb w b T) : b < w.heap.size := by obtain ⟨D, h, _⟩ := h; exact h.lt
theorem Mb.touch (h : Mb w b T) (ht : Touch S w w') (hs : b ∉ S) : Mb w' b T := by
  obtain ⟨D, h1, h2⟩ := h
  refine ⟨D, ?_, h2⟩
  have hlt := h1.lt
  obtain ⟨es, clock, hb, r⟩ := h1
  exact ⟨es, clock, (ht.block b hlt hs).trans hb, r⟩
theorem Mb.made (w : World) : Mb (w.alloc (.map #[] 0)) w.heap.size [] := ⟨_, World.ownsMap_made _ _ _ _, fun _ _ => rfl⟩
/-- A block of cells is no map. -/
theorem Mb.ne {e : TypeId} {xs : List Value} (h : Mb w b T) (h' : Blk w g e xs) : b ≠ g := by
  rintro rfl
  obtain ⟨D, ⟨es, clock, hb, _⟩, _⟩ := h
  rw [h'] at hb
  cases hb
theorem Mq.touch (h : Mq w M T) (ht : Touch S w w') (hs : ∀ k ∈ S, k ∉ ml M) : Mq w' M T := by
  rcases h with h | ⟨b, rfl, h⟩
  · exact .inl h
  · exact .inr ⟨b, rfl, h.touch ht (fun hm => hs b hm (List.mem_singleton.2 rfl))⟩
theorem Mq.hi (h : Mq w M T) : ∀ k ∈ ml M, k < w.heap.size := by
  rcases h with ⟨rfl, _⟩ | ⟨b, rfl, h⟩
  · intro k hk; cases hk
  · intro k hk
    rw [List.mem_singleton.1 hk]
    exact h.lt
theorem Mq.ne {e : TypeId} {xs : List Value} (h : Mq w M T) (h' : Blk w g e xs) : g ∉ ml M := by
  rcases h with ⟨rfl, _⟩ | ⟨b, rfl, h⟩
  · intro hk; cases hk
  · intro hk
    exact h.ne h' (List.mem_singleton.1 hk).symm
/-- 'm[k]' with 'ok'. -/
theorem Mq.look (h : Mq w M T) {e : Ent} (hf : PEnt.Fit e) : (Instr.lookup 133 M (bv e) true).run Tryz.prog w = .ok (.tuple #[.agg #[], .bool (has T e)]) w := by
  rcases h with ⟨rfl, rfl⟩ | ⟨b, rfl, D, h1, h2⟩
  · rw [Maps.look_nil true lawB Tryz.underlying133 (zeroU w) (keyOf_b hf)]
    rfl
  · obtain ⟨v, ps, hr, hv⟩ := h1.look_ok lawB Tryz.underlying133 (zeroU w) unitElem_mk (keyOf_b hf)
    obtain ⟨rfl, _⟩ := unitElem_inv hv
    rw [hr, h2 e hf]
theorem run_lookB {dst : Option Tmp} {x m : Operand} {ty : TypeId} {pos : String} {after : Array Edge} {guard : Option (Nat × Bool)} {ρ : Operand → Value} {e : Ent}
    (h : Mq w M T) (hf : PEnt.Fit e) (hm : ρ m = M) (hx : ρ x = bv e) :
    (execOp ρ { dst, op := .lookup 133 m x true, type := ty, pos, after, guard }).run Tryz.prog w = .ok (.value (.tuple #[.agg #[], .bool (has T e)])) w := by
  unfold execOp
  simp only [hm, hx, Sem.run_bind, h.look hf, Result.andThen_ok, Sem.run_pure]
/-- 'm[k] = struct{}{}'. -/
theorem Mb.put (h : Mb w b T) (t : Tl) (hf : PEnt.Fit t.2) (hl : T.length < maxLen) : ∃ w', (Instr.mapUpdate 133 (.map (some b)) (bv t.2) (.agg #[])).run Tryz.prog w = .ok () w' ∧ Mb w' b (T ++ [t]) ∧ w.grownBy w' (some b) := by
  obtain ⟨D, h1, h2⟩ := h
  have hk := keyOf_b hf
  obtain ⟨w', hr, ho, hg⟩ := h1.update lawB Tryz.underlying133 hl hk unitElem_mk
  refine ⟨w', hr, ⟨_, by rw [List.length_append]; exact ho, fun e he => ?_⟩, hg⟩
  rw [has_snoc]
  by_cases hs : PEnt.same t.2 e = true
  · rw [hs, Bool.or_true, ← bkey_same hs]
    exact Maps.has_put_same h1.isMap (lawB.key hk) _
  · rw [Maps.has_put_other (fun hq => hs (bkey_inj hf he hq.symm)), h2 e he]
    have : PEnt.same t.2 e = false := by simpa using hs
    rw [this, Bool.or_false]
theorem wpList_putB {ops : Array Oper} {rest : List Oper} {o : Oper} {a : Act} {Q : Exit → Act → World → Prop} (hg : o.guard = none) (m x v : Operand) (hop : o.op = Op.mapUpdate 133 m x v)
    (h : Mb w b T) (t : Tl) (hf : PEnt.Fit t.2) (hl : T.length < maxLen) (hm : a.eval m = .map (some b)) (hx : a.eval x = bv t.2) (hv : a.eval v = .agg #[])
    (hK : ∀ w', Mb w' b (T ++ [t]) → w.grownBy w' (some b) → wpList Tryz.prog ops Q rest (a.put o.dst undef) w') : wpList Tryz.prog ops Q (o :: rest) a w := by
  refine wpList_plain hg fun K' hK' => ?_
  obtain ⟨w', hrun, r1, r2⟩ := h.put t hf hl
  unfold Oper.wp
  simp [execOp, hop, hm, hx, hv, hrun, Result.andThen]
  exact hK' _ _ (hK w' r1 r2)
/-- The map is loaded. -/
theorem run_loadMap {dst : Option Tmp} {x : Operand} {ty : TypeId} {pos : String} {after : Array Edge} {guard : Option (Nat × Bool)} {ρ : Operand → Value} {p : Addr} {q : Option Nat}
    (h : w.cell? p = some (.map q)) (hx : ρ x = .pointer (some p)) : (execOp ρ { dst, op := .load 133 x, type := ty, pos, after, guard }).run Tryz.prog w = .ok (.value (.map q)) w := by
  go_simp

/-- The queue at block g told T; F are its blocks. -/
structure Qu (w : World) (g : Nat) (F : List Nat) (T : List Tl) : Prop where
  ex : ∃ A c q, Blk w g 135 [.slice A T.length c, .map q] ∧ Ow w 0 95 8 A T.length c (tls T) ∧ Mq w (.map q) T ∧ F = g :: (bl A ++ ml (.map q))
  le : T.length ≤ 1000000
theorem Qu.hi (h : Qu w g F T) : ∀ k ∈ F, k < w.heap.size := by
  obtain ⟨A, c, q, hB, hO, hM, rfl⟩ := h.ex
  intro k hk
  rcases List.mem_cons.1 hk with rfl | hk
  · exact hB.lt
  · rcases List.mem_append.1 hk with hk | hk
    · exact hO.hi k (mem_bl.1 hk)
    · exact hM.hi k hk
theorem Qu.touch (h : Qu w g F T) (ht : Touch S w w') (hd : ∀ k ∈ S, k ∉ F) : Qu w' g F T := by
  obtain ⟨A, c, q, hB, hO, hM, rfl⟩ := h.ex
  exact ⟨⟨A, c, q, hB.touch ht (fun hm => hd g hm (List.mem_cons_self ..)), hO.touch ht (fun s hs e => hd s hs (List.mem_cons_of_mem _ (List.mem_append_left _ (mem_bl.2 e)))),
    hM.touch ht (fun s hs e => hd s hs (List.mem_cons_of_mem _ (List.mem_append_right _ e))), rfl⟩, h.le⟩
theorem Qu.past (h : Qu w g F T) (hb : Below w.heap.size w w') : Qu w' g F T := h.touch (S := []) (.of_below hb) (by simp)
theorem Qu.drew (h : Qu w g F T) : Qu w.drew g F T := ⟨h.ex, h.le⟩
theorem Qu.alloc (h : Qu w g F T) (o : Obj) : Qu (w.alloc o) g F T := h.past ((Below.refl _ _).alloc (Nat.le_refl _) _)
theorem Qu.self (h : Qu w g F T) : g ∈ F := by obtain ⟨A, c, q, hB, hO, hM, rfl⟩ := h.ex; exact List.mem_cons_self ..
/-- Its cells. -/
theorem Qu.open (h : Qu w g F T) : ∃ A c q, w.cell? ⟨g, 0, none⟩ = some (.slice A T.length c) ∧ w.cell? ⟨g, 1, none⟩ = some (.map q) ∧ Rd w w.heap.size A c 8 T.length (tls T) ∧ Mq w (.map q) T ∧ (∀ k, bk A = some k → k ∈ F) := by
  obtain ⟨A, c, q, hB, hO, hM, rfl⟩ := h.ex
  exact ⟨A, c, q, hB.cell (i := 0) rfl, hB.cell (i := 1) rfl, hO.rd, hM, fun k hk => List.mem_cons_of_mem _ (List.mem_append_left _ (mem_bl.2 hk))⟩
/-- What a call leaves that writes the queue at block g, whose blocks were F. -/
structure QW (w w' : World) (g : Nat) (F : List Nat) (T : List Tl) : Prop where
  ex : ∃ F', Qu w' g F' T ∧ ∀ k ∈ F', k ∈ F ∨ w.heap.size ≤ k
  touch : Touch F w w'
theorem QW.same (h : Qu w g F T) (hb : Below w.heap.size w w') : QW w w' g F T := ⟨⟨F, h.past hb, fun _ hk => .inl hk⟩, .of_below hb⟩
theorem QW.behind {w0 : World} (h : QW w w' g F T) (hb : Below w0.heap.size w0 w) : QW w0 w' g F T := by
  obtain ⟨⟨F', h1, h2⟩, h3⟩ := h
  exact ⟨⟨F', h1, fun k hk => (h2 k hk).imp id (fun h => Nat.le_trans hb.size h)⟩, (Touch.of_below hb).trans h3⟩
theorem QW.ahead {w2 : World} (h : QW w w' g F T) (hb : Below w'.heap.size w' w2) : QW w w2 g F T := by
  obtain ⟨⟨F', h1, h2⟩, h3⟩ := h
  exact ⟨⟨F', h1.past hb, h2⟩, h3.trans (.of_below hb)⟩
/-- Two such calls. -/
theorem QW.trans {w1 w2 : World} {F' : List Nat} {T' : List Tl} (hF : ∀ k ∈ F', k ∈ F ∨ w.heap.size ≤ k) (ht : Touch F w w1) (k : QW w1 w2 g F' T') : QW w w2 g F T' := by
  obtain ⟨⟨F2, h1, h2⟩, h3⟩ := k
  refine ⟨⟨F2, h1, fun k hk => ?_⟩, ⟨h3.os.trans ht.os, h3.tape.trans ht.tape, h3.output.trans ht.output, Nat.le_trans ht.size h3.size, fun k hk hn => ?_⟩⟩
  · rcases h2 k hk with q | q
    · exact hF k q
    · exact .inr (Nat.le_trans ht.size q)
  · refine (h3.block k (Nat.lt_of_lt_of_le hk ht.size) (fun hm => ?_)).trans (ht.block k hk hn)
    rcases hF k hm with q | q
    · exact hn q
    · omega
end

set_option maxRecDepth 100000 in
theorem broadcastOf_c (w : World) (e : Ent) : Calls Tryz.prog 176 #[ev e] w fun x w' => x = .returned (bv e) ∧ Below w.heap.size w w' := by
  have b0 := (Below.refl w.heap.size w).alloc (Nat.le_refl _) (.cells #[.int .i64 e.fr, .int .i64 e.boot, .int .i64 e.seq, .int .i64 e.ord, .int .i64 e.lev, .int .i64 e.stamp, .string e.data] 93)
  have b1 := b0.alloc (by simp) (.cells #[.int .i64 0, .int .i64 0, .int .i64 0] 235)
  have K := Blk.new (w.alloc (.cells #[.int .i64 e.fr, .int .i64 e.boot, .int .i64 e.seq, .int .i64 e.ord, .int .i64 e.lev, .int .i64 e.stamp, .string e.data] 93)) #[.int .i64 0, .int .i64 0, .int .i64 0] 235
  rw [show (w.alloc (.cells #[.int .i64 e.fr, .int .i64 e.boot, .int .i64 e.seq, .int .i64 e.ord, .int .i64 e.lev, .int .i64 e.stamp, .string e.data] 93)).heap.size = w.heap.size + 1 by simp] at K
  have b2 := Lib.hid (b1.trans (grown_below (grown_row _ (w.heap.size + 1) #[.int .i64 e.fr, .int .i64 e.boot, .int .i64 e.seq]) (by omega) b1.size))
  have K2 := Lib.hid (K.row #[.int .i64 e.fr, .int .i64 e.boot, .int .i64 e.seq])
  have K1 := Lib.hid K
  clear b0 b1 K
  show Calls _ _ #[.agg #[.int .i64 e.fr, .int .i64 e.boot, .int .i64 e.seq, .int .i64 e.ord, .int .i64 e.lev, .int .i64 e.stamp, .string e.data]] _ _
  go_enter Tryz.func176, Tryz.ntmps176
  go_wp2_with ((with_reducible show wpList _ _ _ ((⟨none, Op.store 235 (.tmp 2) _, _, _, _, _⟩ : Oper) :: _) _ _); go_must (refine wpList_store_row rfl 235 (.tmp 2) _ rfl (w.heap.size + 1) _ rfl rfl _ _ K1.out (by kernel_rfl) (by rfl) (by kernel_rfl) ?_))
  refine bodyPost_ret (v := bv e) (results_cell_row rfl _ _ (w.heap.size + 1) _ _ _ _ rfl K2.out Tryz.underlying235 rfl (by kernel_rfl)) rfl ⟨rfl, b2.out⟩
end Go.Proofs.YtacipjdaiglnjaaGreatDoor

