/- Package pending: has, the closures, New, Len, List, Done. -/
import Derived.Test.YtmlmngoieabjbaaPendA
import Derived.BigRegion
import Derived.Deep.RegionWith
import Derived.Tactics2
namespace Go.Proofs.Ytmlmngoieabjbaa
open Go.RowKit PPend

set_option maxRecDepth 100000 in
theorem phasClose_c (w : World) (k : Nat) (x e : Ent) (K : Blk w k 35 (ecs e)) :
    Calls Try.prog 30 #[ev x, .pointer (some ⟨k, 0, none⟩)] w fun q w' => q = .returned (.bool (PEnt.same x e)) ∧ Below w.heap.size w w' := by
  have b0 := (Below.refl w.heap.size w).alloc (Nat.le_refl _) (.cells #[.int .i64 x.fr, .int .i64 x.boot, .int .i64 x.seq, .int .i64 x.ord, .int .i64 x.lev, .int .i64 x.stamp, .string x.data] 35)
  have K1 := Blk.newEnt w 35 x
  have K2 := K.alloc (.cells #[.int .i64 x.fr, .int .i64 x.boot, .int .i64 x.seq, .int .i64 x.ord, .int .i64 x.lev, .int .i64 x.stamp, .string x.data] 35)
  obtain ⟨d0, d1, d2, d3, d4, d5, d6⟩ := K1.ent
  obtain ⟨f0, f1, f2, f3, f4, f5, f6⟩ := K2.ent
  clear K K1 K2
  show Calls _ _ #[.agg #[.int .i64 x.fr, .int .i64 x.boot, .int .i64 x.seq, .int .i64 x.ord, .int .i64 x.lev, .int .i64 x.stamp, .string x.data], _] _ _
  go_enter Try.func30, Try.ntmps30
  go_wp2_with fail
  generalize (w.alloc (.cells #[.int .i64 x.fr, .int .i64 x.boot, .int .i64 x.seq, .int .i64 x.ord, .int .i64 x.lev, .int .i64 x.stamp, .string x.data] 35)) = w1 at *
  clear d0 d1 d2 d3 d4 d5 d6 f0 f1 f2 f3 f4 f5 f6
  refine (Same_c w1 x e).mono ?_
  rintro q w2 ⟨rfl, b2⟩
  go_wp2_with fail
  go_ret
  exact ⟨rfl, b0.trans (b2.mono b0.size)⟩

set_option maxRecDepth 100000 in
theorem phas_c (w : World) (A : Option Addr) (c n : Nat) (l : List Ent) (R : Rd w w.heap.size A c 7 n (els l)) (e : Ent) :
    Calls Try.prog 24 #[.slice A n c, ev e] w fun x w' => x = .returned (.bool (PLog.has l e)) ∧ Below w.heap.size w w' := by
  have B1 := Lib.hid ((Below.refl w.heap.size w).alloc (Nat.le_refl _) (.cells #[.int .i64 e.fr, .int .i64 e.boot, .int .i64 e.seq, .int .i64 e.ord, .int .i64 e.lev, .int .i64 e.stamp, .string e.data] 35))
  have K1 := Lib.hid (Blk.newEnt w 35 e)
  have R1 := Lib.hid (R.alloc (.cells #[.int .i64 e.fr, .int .i64 e.boot, .int .i64 e.seq, .int .i64 e.ord, .int .i64 e.lev, .int .i64 e.stamp, .string e.data] 35))
  have eg : ∀ args w, (callFunc 30 args).run Try.prog w = .ok (.enter 30 args) w := enters_of Try.func30 (by kernel_rfl) rfl
  clear R
  show Calls _ _ #[_, .agg #[.int .i64 e.fr, .int .i64 e.boot, .int .i64 e.seq, .int .i64 e.ord, .int .i64 e.lev, .int .i64 e.stamp, .string e.data]] _ _
  go_enter Try.func24, Try.ntmps24
  go_wp2_with fail
  generalize (w.alloc (.cells #[.int .i64 e.fr, .int .i64 e.boot, .int .i64 e.seq, .int .i64 e.ord, .int .i64 e.lev, .int .i64 e.stamp, .string e.data] 35)) = w1 at *
  refine (containsE_c w1 _ A c n l R1.out 30 #[.pointer (some ⟨w.heap.size, 0, none⟩)] (fun x => PEnt.same x e) eg (fun W x hb => phasClose_c W w.heap.size x e (K1.out.past hb))).mono ?_
  rintro x w2 ⟨rfl, b2⟩
  go_wp2_with fail
  go_ret
  exact ⟨rfl, B1.out.trans (b2.mono B1.out.size)⟩

set_option maxRecDepth 100000 in
theorem pdoneClose_c (w : World) (k : Nat) (A : Option Addr) (c n : Nat) (l : List Ent) (R : Rd w w.heap.size A c 7 n (els l)) (K : Blk w k 23 [.slice A n c]) (x : Ent) :
    Calls Try.prog 23 #[ev x, .pointer (some ⟨k, 0, none⟩)] w fun q w' => q = .returned (.bool (PLog.has l x)) ∧ Below w.heap.size w w' := by
  have b0 := Lib.hid ((Below.refl w.heap.size w).alloc (Nat.le_refl _) (.cells #[.int .i64 x.fr, .int .i64 x.boot, .int .i64 x.seq, .int .i64 x.ord, .int .i64 x.lev, .int .i64 x.stamp, .string x.data] 35))
  have K1 := Blk.newEnt w 35 x
  have c0 := (K.alloc (.cells #[.int .i64 x.fr, .int .i64 x.boot, .int .i64 x.seq, .int .i64 x.ord, .int .i64 x.lev, .int .i64 x.stamp, .string x.data] 35)).cell (i := 0) rfl
  have R1 := Lib.hid ((R.alloc (.cells #[.int .i64 x.fr, .int .i64 x.boot, .int .i64 x.seq, .int .i64 x.ord, .int .i64 x.lev, .int .i64 x.stamp, .string x.data] 35)).tight)
  obtain ⟨d0, d1, d2, d3, d4, d5, d6⟩ := K1.ent
  clear K K1 R
  show Calls _ _ #[.agg #[.int .i64 x.fr, .int .i64 x.boot, .int .i64 x.seq, .int .i64 x.ord, .int .i64 x.lev, .int .i64 x.stamp, .string x.data], _] _ _
  go_enter Try.func23, Try.ntmps23
  go_wp2_with fail
  generalize (w.alloc (.cells #[.int .i64 x.fr, .int .i64 x.boot, .int .i64 x.seq, .int .i64 x.ord, .int .i64 x.lev, .int .i64 x.stamp, .string x.data] 35)) = w1 at *
  clear d0 d1 d2 d3 d4 d5 d6 c0
  refine (phas_c w1 A c n l R1.out x).mono ?_
  rintro q w2 ⟨rfl, b2⟩
  go_wp2_with fail
  go_ret
  exact ⟨rfl, b0.out.trans (b2.mono b0.out.size)⟩

/-- What waits, its cells all zero. -/
def pnz : List Value := pncs 0 0 0 (zeros 4) 0
theorem pnz_ne : (pnz.toArray = #[]) = False := by simp [pnz, pncs]
theorem pnz_sz : (pnz.toArray.size < 2) = False := by simp [pnz, pncs]
theorem pnz_set (fr boot : Int) : (pnz.toArray.setIfInBounds 0 (.int .i64 fr)).setIfInBounds 1 (.int .i64 boot) = (pncs fr boot 0 (zeros 4) 0).toArray := by
  rw [List.setIfInBounds_toArray, List.setIfInBounds_toArray]; rfl
theorem pn_zero (w : World) : (zeroValue 49).run Try.prog w = .ok (.agg pnz.toArray) w := by
  have : (Try.prog.info? 49).map (·.zero) = some (some (.agg pnz.toArray)) := by kernel_rfl
  cases hq : Try.prog.info? 49 with
  | none => simp [hq] at this
  | some i =>
    simp [hq] at this
    simp [zeroValue, typeInfo, hq, this]
theorem pnew_yes (w : World) (fr boot : Int) (h1 : 1 ≤ fr) (h2 : fr ≤ 7) (h3 : 1 ≤ boot) (h4 : boot ≤ 1099511627776) :
    Calls Try.prog 7 #[.int .i64 fr, .int .i64 boot] w fun e w' => e = .returned (.pointer (some ⟨w.heap.size, 0, none⟩)) ∧ Pn w' w.heap.size fr boot 0 [] ∧ Below w.heap.size w w' := by
  have hz := pn_zero
  have hn := pnz_ne
  have hs := pnz_set
  have hq := pnz_sz
  go_enter Try.func7, Try.ntmps7
  go_wp2_with fail
  go_ret
  exact ⟨rfl, ⟨zeros 4, rfl, Blk.new w _ _⟩, (Below.refl _ _).alloc (Nat.le_refl _) _⟩
theorem pnew_no (w : World) (fr boot : Int) (h : ¬ (1 ≤ fr ∧ fr ≤ 7 ∧ 1 ≤ boot ∧ boot ≤ 1099511627776)) :
    Calls Try.prog 7 #[.int .i64 fr, .int .i64 boot] w fun e w' => e = .returned (.pointer none) ∧ w = w' := by
  rcases (by omega : fr < 1 ∨ (1 ≤ fr ∧ 7 < fr) ∨ (1 ≤ fr ∧ fr ≤ 7 ∧ boot < 1) ∨ (1 ≤ fr ∧ fr ≤ 7 ∧ 1 ≤ boot ∧ 1099511627776 < boot)) with k | ⟨k, k2⟩ | ⟨k, k2, k3⟩ | ⟨k, k2, k3, k4⟩
  all_goals
    clear h
    go_enter Try.func7, Try.ntmps7
    go_wp2_with fail
    go_ret
    exact ⟨rfl, rfl⟩

/-! Of nil. -/
theorem plen_nil (w : World) : Calls Try.prog 17 #[.pointer none] w fun e w' => e = .returned (.int .i64 0) ∧ w = w' := by
  go_enter Try.func17, Try.ntmps17
  go_wp2_with fail
  go_ret
  exact ⟨rfl, rfl⟩
theorem plist_nil (w : World) : Calls Try.prog 16 #[.pointer none] w fun e w' => e = .returned (.slice none 0 0) ∧ w = w' := by
  go_enter Try.func16, Try.ntmps16
  go_wp2_with fail
  go_ret
  exact ⟨rfl, rfl⟩
theorem pdone_nil (w : World) (A : Option Addr) (n c : Nat) : Calls Try.prog 13 #[.pointer none, .slice A n c] w fun e w' => e = .returned (.int .i64 0) ∧ Below w.heap.size w w' := by
  have b0 := (Below.refl w.heap.size w).alloc (Nat.le_refl _) (.cells #[.slice A n c] 23)
  go_enter Try.func13, Try.ntmps13
  go_wp2_with fail
  go_ret
  exact ⟨rfl, b0⟩

/-- 'waiting[:n]'. -/
theorem run_wait (w : World) (g s n : Nat) (hn : n ≤ 4) : (Instr.sliceAt 47 (.pointer (some ⟨g, s, none⟩)) none (some (.int .i64 (n : Int))) none).run Try.prog w = .ok (.slice (some ⟨g, s, none⟩) n 4) w := by
  have hu : Try.prog.underlying 47 = some (.array 4 35) := by kernel_rfl
  have hs : (sizeOf 35).run Try.prog w = .ok 7 w := by kernel_rfl
  have hb := run_sliceBound (P := Try.prog) w .i64 (n : Int) 4 .sliceAlen (by omega) (by omega)
  simp [Instr.sliceAt, Instr.sureAddr, run_underlying hu, Instr.sliceBounds, hb, Addr.add]
section
variable (w : World) (g : Nat) (fr boot seq : Int) (L : List Ent) (h : Pn w g fr boot seq L)
include h
theorem plen_c : Calls Try.prog 17 #[.pointer (some ⟨g, 0, none⟩)] w fun e w' => e = .returned (.int .i64 L.length) ∧ w = w' := by
  obtain ⟨Z, hl, hB⟩ := h
  have c0 := hB.cell (pncs_n hl)
  clear hB hl
  go_enter Try.func17, Try.ntmps17
  go_wp2_with fail
  go_ret
  exact ⟨rfl, rfl⟩
set_option maxRecDepth 100000 in
theorem plist_c : Calls Try.prog 16 #[.pointer (some ⟨g, 0, none⟩)] w fun e w' =>
    ∃ A' c', e = .returned (.slice A' L.length c') ∧ w'.ownsRow w.heap.size 35 7 (.slice A' L.length c') L.length (els L) ∧ Below w.heap.size w w' := by
  have hf := h.few
  obtain ⟨Z, hl, hB⟩ := h
  have c0 := hB.cell (pncs_n hl)
  have R := Lib.hid (show Rd w w.heap.size (some ⟨g, 3, none⟩) 4 7 L.length (els L) from by
    have := Blk.entsRd hB (o := 3) (n := L.length) (c := 4) rfl (by omega) hf (by unfold maxLen; omega)
    rwa [List.take_left] at this)
  have hs := fun W => run_wait W g 3 L.length hf
  clear hB hl
  go_enter Try.func16, Try.ntmps16
  go_wp2_with fail
  go_region_with (go_at_call 26; refine (cloneE_c w.drew _ _ _ _ L R.out.drew (by omega)).mono ?_; rintro e w2 ⟨A', c', rfl, own, bel⟩)
  go_wp2_with fail
  go_ret
  exact ⟨A', c', rfl, own, (Below.refl _ w).drew.trans bel⟩
set_option maxHeartbeats 4000000 in
set_option maxRecDepth 100000 in
theorem pdone_c (A : Option Addr) (c n : Nat) (l : List Ent) (R : Rd w w.heap.size A c 7 n (els l)) (hA : 0 < n * 7 → bk A ≠ some g) :
    Calls Try.prog 13 #[.pointer (some ⟨g, 0, none⟩), .slice A n c] w fun e w' => e = .returned (.int .i64 ((L.length : Int) - (left l L).length)) ∧ Pn w' g fr boot seq (left l L) ∧ Touch [g] w w' := by
  have hf := h.few
  obtain ⟨Z, hl, hB⟩ := h
  have T1 := Lib.hid (show Touch [g] w (w.alloc (.cells #[.slice A n c] 23)) from .of_below ((Below.refl w.heap.size w).alloc (Nat.le_refl _) _))
  have B1 := Lib.hid (hB.alloc (.cells #[.slice A n c] 23))
  have K1 := Lib.hid (show Blk (w.alloc (.cells #[.slice A n c] 23)) w.heap.size 23 [.slice A n c] from Blk.new w _ _)
  have R1 := Lib.hid (R.alloc (.cells #[.slice A n c] 23)).tight
  have c0 := B1.out.cell (pncs_n hl)
  have hs := fun W => run_wait W g 3 L.length hf
  have eg : ∀ args w, (callFunc 23 args).run Try.prog w = .ok (.enter 23 args) w := enters_of Try.func23 (by kernel_rfl) rfl
  have hg : g ≠ w.heap.size := Nat.ne_of_lt hB.lt
  have HL := Lib.hid hl
  clear hB hl R
  go_enter Try.func13, Try.ntmps13
  go_wp2_with fail
  have RT := Lib.hid (fun (W' : World) (ht : Touch [g] (w.alloc (.cells #[.slice A n c] 23)) W') => (show Rd W' W'.heap.size A c 7 n (els l) from (R1.out.touch ht (fun h0 s hs => by rw [List.mem_singleton] at hs; subst hs; exact hA h0)).tight))
  have KT := Lib.hid (fun (W' : World) (ht : Touch [g] (w.alloc (.cells #[.slice A n c] 23)) W') => K1.out.touch ht (fun hs => by rw [List.mem_singleton] at hs; exact hg hs.symm))
  clear K1 R1 hg
  obtain ⟨k, hk⟩ : ∃ k, w.heap.size = k := ⟨_, rfl⟩
  rw [hk] at KT ⊢
  generalize w.alloc (.cells #[.slice A n c] 23) = w1 at *
  clear hk c0
  have e1 : ((L ++ Z).take L.length).filter (fun x => !PLog.has l x) = left l L := by rw [List.take_left]; rfl
  refine (deleE_c w1 g 3 L.length 4 49 [.int .i64 fr, .int .i64 boot, .int .i64 seq] [.int .i64 L.length] (L ++ Z) B1.out rfl (by rw [List.length_append]; omega) hf (by unfold maxLen; omega)
    23 #[.pointer (some ⟨k, 0, none⟩)] (fun x => PLog.has l x) eg (fun W' x ht => pdoneClose_c W' k A c n l (RT.out W' ht) (KT.out W' ht) x)).mono ?_
  rw [e1]
  clear e1 B1 RT KT
  rintro e w2 ⟨V, rfl, hV, hd, B2, T2⟩
  have hm := left_le l L
  have hV4 := hV.trans HL.out
  have B3 : Blk w2 g 49 (pncs fr boot seq V L.length) := B2
  have c31 := B3.cell (pncs_n hV4)
  have f31 := B3.free 31
  have S3 := Lib.hid (show Blk (w2.setCell ⟨g, 31, none⟩ (.int .i64 (left l L).length)) g 49 (pncs fr boot seq V (left l L).length) from by
    have := B3.set 31 (.int .i64 (left l L).length)
    rwa [pnset_n hV4] at this)
  have c31' := S3.out.cell (pncs_n hV4)
  have eV : left l L ++ V.drop (left l L).length = V := by
    have := List.take_append_drop (left l L).length V
    rwa [hd] at this
  have PN := Lib.hid (show Pn (w2.setCell ⟨g, 31, none⟩ (.int .i64 (left l L).length)) g fr boot seq (left l L) from ⟨V.drop (left l L).length, by rw [eV]; exact hV4, by rw [eV]; exact S3.out⟩)
  have TT := Lib.hid ((T1.out.trans T2).trans (.of_grown (grown_set w2 g 31 (.int .i64 (left l L).length))))
  clear B2 B3 S3 hd hV hV4 T2 T1 eV
  generalize hmm : (left l L).length = m at *
  have HMM := Lib.hid hmm
  clear hmm
  go_wp2_with fail
  go_ret
  exact ⟨by rw [HMM.out]; rfl, PN.out, TT.out⟩
end
end Go.Proofs.Ytmlmngoieabjbaa
