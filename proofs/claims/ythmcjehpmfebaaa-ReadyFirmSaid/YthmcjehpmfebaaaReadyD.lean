/- Contract of the queue's tell where there is no map yet; both. -/
import Derived.Test.YthmcjehpmfebaaaReadyC
namespace Go.Proofs.Ythmcjehpmfebaaa
open Go.RowKit PReady

set_option maxHeartbeats 8000000 in
set_option maxRecDepth 100000 in
/-- With no map. -/
theorem tell_none (w : World) (g : Nat) (F : List Nat) (T : List Tl) (A : Option Addr) (c : Nat) (hB0 : Blk w g 59 [.slice A T.length c, .map none]) (hO0 : Ow w 0 44 8 A T.length c (tls T)) (hT0 : T = []) (hS : F = g :: bl A)
    (p : Int) (e : Ent) (hf : PEnt.Fit e) (hl : T.length < 1000000) :
    Calls Try.prog 28 #[.pointer (some ⟨g, 0, none⟩), .int .i64 p, ev e] w fun x w' => x = .returned (.tuple #[]) ∧ QW w w' g F (T ++ [(p, e)]) := by
  have B0 := (Below.refl w.heap.size w).alloc (Nat.le_refl _) (.cells #[.int .i64 e.fr, .int .i64 e.boot, .int .i64 e.seq, .int .i64 e.ord, .int .i64 e.lev, .int .i64 e.stamp, .string e.data] 39)
  have K := Blk.newEnt w 39 e
  have hB := hB0.past B0
  have hO := hO0.past B0
  have HF := Lib.hid hf
  have HL := Lib.hid hl
  have hTT := Touch.of_below (S := F) B0
  have hnil : ∀ W, (binOp .eql 57 (.map none) (.map none)).run Try.prog W = .ok (.bool true) W := fun W => run_eql_map_nil W _ _ _ none Try.underlying57
  have hmm := @run_makeMap Try.prog
  have hgF : g ∈ F := by rw [hS]; exact List.mem_cons_self ..
  have hgk : g ≠ w.heap.size := fun h => by have := hB0.lt; omega
  have s1 : (w.alloc (.cells #[.int .i64 e.fr, .int .i64 e.boot, .int .i64 e.seq, .int .i64 e.ord, .int .i64 e.lev, .int .i64 e.stamp, .string e.data] 39)).heap.size = w.heap.size + 1 := by simp
  have Bm := (Below.refl (w.alloc (.cells #[.int .i64 e.fr, .int .i64 e.boot, .int .i64 e.seq, .int .i64 e.ord, .int .i64 e.lev, .int .i64 e.stamp, .string e.data] 39)).heap.size (w.alloc (.cells #[.int .i64 e.fr, .int .i64 e.boot, .int .i64 e.seq, .int .i64 e.ord, .int .i64 e.lev, .int .i64 e.stamp, .string e.data] 39))).alloc (Nat.le_refl _) (.map #[] 0)
  have hM1 : Mb ((w.alloc (.cells #[.int .i64 e.fr, .int .i64 e.boot, .int .i64 e.seq, .int .i64 e.ord, .int .i64 e.lev, .int .i64 e.stamp, .string e.data] 39)).alloc (.map #[] 0)) (w.alloc (.cells #[.int .i64 e.fr, .int .i64 e.boot, .int .i64 e.seq, .int .i64 e.ord, .int .i64 e.lev, .int .i64 e.stamp, .string e.data] 39)).heap.size T := by rw [hT0]; exact Mb.made _
  have hB1 := hB.past Bm
  have hO1 := hO.past Bm
  have K1 := K.past Bm
  have hs := Touch.of_grown (grown_set ((w.alloc (.cells #[.int .i64 e.fr, .int .i64 e.boot, .int .i64 e.seq, .int .i64 e.ord, .int .i64 e.lev, .int .i64 e.stamp, .string e.data] 39)).alloc (.map #[] 0)) g 1 (.map (some (w.alloc (.cells #[.int .i64 e.fr, .int .i64 e.boot, .int .i64 e.seq, .int .i64 e.ord, .int .i64 e.lev, .int .i64 e.stamp, .string e.data] 39)).heap.size)))
  have hB2 := hB1.set 1 (.map (some (w.alloc (.cells #[.int .i64 e.fr, .int .i64 e.boot, .int .i64 e.seq, .int .i64 e.ord, .int .i64 e.lev, .int .i64 e.stamp, .string e.data] 39)).heap.size))
  have hgm : (w.alloc (.cells #[.int .i64 e.fr, .int .i64 e.boot, .int .i64 e.seq, .int .i64 e.ord, .int .i64 e.lev, .int .i64 e.stamp, .string e.data] 39)).heap.size ≠ g := hM1.ne hB1
  have hM2 := hM1.touch hs (by simpa using hgm)
  have hne : bk A ≠ some g := hO1.ne hB1 (by decide)
  have hO2 := hO1.touch hs (by simpa using hne)
  have K2 := K1.touch hs (by simpa using hgk.symm)
  have hT2 := (hTT.trans (.of_below Bm)).trans (hs.wide (S' := F) (by simpa using hgF))
  have HSUB0 : ∀ k ∈ g :: (bl A ++ [(w.alloc (.cells #[.int .i64 e.fr, .int .i64 e.boot, .int .i64 e.seq, .int .i64 e.ord, .int .i64 e.lev, .int .i64 e.stamp, .string e.data] 39)).heap.size]), k ∈ F ∨ w.heap.size ≤ k := by
    intro k hk
    rcases List.mem_cons.1 hk with rfl | hk
    · exact .inl hgF
    · rcases List.mem_append.1 hk with hk | hk
      · exact .inl (by rw [hS]; exact List.mem_cons_of_mem _ hk)
      · rw [List.mem_singleton.1 hk, s1]; exact .inr (by omega)
  have d1 := hB.cell (i := 1) rfl
  have e1 := hB1.cell (i := 1) rfl
  have f1 := hB1.free 1
  simp only [List.set_cons_succ, List.set_cons_zero] at hB2
  clear hB0 hO0 hT0 hS hf hl hB hO hB1 hO1 K K1 hM1 Bm B0 hTT hgF hgk hgm hne hs
  rw [s1] at hB2 hO2 hM2 K2 hT2 HSUB0
  clear s1
  have HX := Lib.hid (And.intro hB2 (And.intro hO2 (And.intro hM2 (And.intro K2 (And.intro hT2 HSUB0)))))
  clear hB2 hO2 hM2 K2 hT2 HSUB0
  show Calls _ _ #[_, _, .agg #[.int .i64 e.fr, .int .i64 e.boot, .int .i64 e.seq, .int .i64 e.ord, .int .i64 e.lev, .int .i64 e.stamp, .string e.data]] _ _
  go_enter Try.func28, Try.ntmps28
  go_wp2_with fail
  generalize w.heap.size + 1 = b at *
  generalize (((w.alloc (.cells #[.int .i64 e.fr, .int .i64 e.boot, .int .i64 e.seq, .int .i64 e.ord, .int .i64 e.lev, .int .i64 e.stamp, .string e.data] 39)).alloc (.map #[] 0)).setCell ⟨g, 1, none⟩ (.map (some b))) = w2 at *
  have HB := Lib.hid (show Blk w2.drew g 59 _ from HX.out.1)
  have HO := Lib.hid (show Ow w2.drew 0 44 8 A T.length c (tls T) from HX.out.2.1)
  have HM := Lib.hid (show Mb w2.drew b T from HX.out.2.2.1)
  have HK := Lib.hid (show Blk w2.drew w.heap.size 39 (ecs e) from HX.out.2.2.2.1)
  have HT := Lib.hid (show Touch F w w2.drew from HX.out.2.2.2.2.1.drew)
  have HSUB := Lib.hid HX.out.2.2.2.2.2
  have GB := Lib.hid (show g ∉ [b] from fun hm => HM.out.ne HB.out (List.mem_singleton.1 hm).symm)
  have KB := Lib.hid (show w.heap.size ∉ [b] from fun hm => HM.out.ne HK.out (List.mem_singleton.1 hm).symm)
  have AB := Lib.hid (show bk A ≠ some b from HO.out.noMap HM.out)
  clear HX d1 e1 f1 hnil hmm
  refine Hs.begin [b] ?_
  refine Hs.take (v := .pointer (some ⟨g, 0, none⟩)) 0 15 rfl ?_ (fun _ _ => rfl)
  refine Hs.take (v := .pointer (some ⟨g, 0, none⟩)) 1 16 rfl ?_ (fun _ _ => rfl)
  refine Hs.take (v := .pointer (some ⟨g, 1, none⟩)) 2 17 rfl ?_ (fun w' hw' => by go_simp)
  refine Hs.take (v := .map (some b)) 3 18 rfl ?_ (fun w' hw' => run_loadM ((HB.out.touch hw' GB.out).cell (i := 1) rfl) rfl)
  refine Hs.take (v := ev e) 4 19 rfl ?_ (fun w' hw' => run_loadE ((HK.out.touch hw' KB.out).range) rfl)
  refine Hs.take (v := .agg #[]) 6 21 rfl ?_ (fun w' hw' => by go_simp)
  refine Hs.call (f := 30) (args := #[ev e]) 5 20 rfl ?_ (run_callf Try.func30 (by kernel_rfl) (by kernel_rfl) (by simp only [List.map_toArray, List.map_cons, List.map_nil]; rfl))
  refine (broadcastOf_c _ e).mono ?_
  rintro x w3 ⟨rfl, b3⟩
  have T3 := Lib.hid (show Touch [b] w2.drew w3 from .of_below b3)
  have M3 := Lib.hid (show Mb w3 b T from HM.out.touch (S := []) (.of_below b3) (by simp))
  clear b3
  refine Hs.back T3.out ?_
  refine Hs.only 7 none rfl ?_
  refine wpList_putB rfl (.tmp 18) (.tmp 20) (.tmp 21) rfl M3.out (p, e) HF.out (by have := HL.out; unfold maxLen; omega) rfl rfl rfl ?_
  intro w4 m4 g4
  have T4 := Lib.hid (T3.out.trans (Touch.of_grown g4)).drew
  refine Hs.next (Touch.of_grown g4) ?_ rfl
  refine Hs.done ?_
  have HB4 := Lib.hid (show Blk w4.drew g 59 _ from HB.out.touch T4.out GB.out)
  have HO4 := Lib.hid (show Ow w4.drew 0 44 8 A T.length c (tls T) from HO.out.touch T4.out (fun s hs => by rw [List.mem_singleton.1 hs]; exact AB.out))
  have HM4 := Lib.hid (show Mb w4.drew b (T ++ [(p, e)]) from m4)
  have HK4 := Lib.hid (show Blk w4.drew w.heap.size 39 (ecs e) from HK.out.touch T4.out KB.out)
  have HT4 := Lib.hid (show Touch F w w4.drew from HT.out.trans4 T4.out (fun x hx => HSUB.out x (List.mem_cons_of_mem _ (List.mem_append_right _ hx))))
  have HG := Lib.hid (show bk A ≠ some g from HO4.out.ne HB4.out (by decide))
  have KG := Lib.hid (show w.heap.size ∉ g :: bl A from fun hm => by
    rcases List.mem_cons.1 hm with h | h
    · exact HK4.out.ne HB4.out (by decide) h
    · exact HO4.out.ne HK4.out (by decide) (mem_bl.1 h))
  clear m4 g4 T3 M3 T4 HB HO HM HK HT
  go_wp2_with fail
  refine Hs.begin (g :: bl A) ?_
  refine Hs.take (v := .pointer (some ⟨g, 0, none⟩)) 0 22 rfl ?_ (fun _ _ => rfl)
  refine Hs.take (v := .pointer (some ⟨g, 0, none⟩)) 1 23 rfl ?_ (fun _ _ => rfl)
  refine Hs.take (v := .pointer (some ⟨g, 0, none⟩)) 2 24 rfl ?_ (fun _ _ => rfl)
  refine Hs.take (v := .pointer (some ⟨g, 0, none⟩)) 3 25 rfl ?_ (fun w' hw' => by go_simp)
  refine Hs.take (v := .int .i64 p) 5 27 rfl ?_ (fun _ _ => rfl)
  refine Hs.take (v := ev e) 6 28 rfl ?_ (fun w' hw' => run_loadE ((HK4.out.touch hw' KG.out).range) rfl)
  refine Hs.take (v := tv (p, e)) 7 29 rfl ?_ (fun w' hw' => run_buildT rfl rfl)
  have BA := Lib.hid (show Below w4.drew.heap.size w4.drew (w4.drew.alloc (.cells (tcs (p, e)).toArray 44)) from (Below.refl _ _).alloc (Nat.le_refl _) _)
  have HBA := Lib.hid (HB4.out.past BA.out)
  have HOA := Lib.hid (HO4.out.past BA.out)
  have HMA := Lib.hid (HM4.out.touch (S := []) (.of_below BA.out) (by simp))
  have HTA := Lib.hid (HT4.out.trans (.of_below BA.out))
  have HN := Lib.hid (Rd.new w4.drew (tcs (p, e)).toArray 44 8 1 rfl (by unfold maxLen; omega))
  refine Hs.two 4 8 ?_ ?_
  · refine Hs.pick 4 (some 26) rfl ?_
    refine wpList_runTo' rfl (.slice A T.length c) _ (run_loadS (HB4.out.cell (i := 0) rfl) rfl) ?_
    refine Hs.next (Touch.refl _ _) ?_
    refine Hs.only 8 (some 30) rfl ?_
    refine wpList_buildT rfl (.tmp 29) rfl (p, e) rfl ?_
    refine Hs.next (.of_below BA.out) ?_ (by simp only [Act.put, List.setIfInBounds_toArray, List.set_cons_succ, List.set_cons_zero]; rfl)
    refine Hs.only 9 (some 31) rfl ?_
    refine wpList_app2 rfl (.tmp 26) (.tmp 30) 30 rfl 0 44 _ 8 72 Try.underlying30 told_info rfl (by omega) A T.length c (tls T) rfl HOA.out _ _ 1 1 (tcs (p, e)) rfl HN.out (tcs_one (p, e)) (by have := HL.out; unfold maxLen; omega) (by have := HL.out; omega) (Nat.zero_le _) ?_
    intro A2 c2 w5 O5 g5 h5
    refine Hs.next ((Touch.of_bk g5).wide (fun k hk => List.mem_cons_of_mem _ hk)) ?_ (by simp only [Act.put, List.setIfInBounds_toArray, List.set_cons_succ, List.set_cons_zero]; rfl)
    have K5 : Blk w5 g 59 [.slice A T.length c, .map (some b)] := HBA.out.touch (Touch.of_bk g5) (fun hm => HG.out (mem_bl.1 hm))
    have W5 := Lib.hid (Qu.app HBA.out HOA.out HMA.out HL.out g5 h5 O5)
    clear O5 h5
    refine Hs.take (v := .pointer (some ⟨g, 0, none⟩)) 10 32 rfl ?_ (fun _ _ => rfl)
    refine Hs.take (v := .pointer (some ⟨g, 0, none⟩)) 11 33 rfl ?_ (fun w' hw' => by go_simp)
    refine Hs.only 12 none rfl ?_
    refine wpList_skipTo rfl rfl _ (run_storeS (K5.cell (i := 0) rfl) (K5.free 0) rfl rfl) ?_
    refine Hs.next ((Touch.of_grown (grown_set w5 g 0 _)).wide (by simp)) ?_ rfl
    refine Hs.done ?_
    clear K5 g5
    (try simp only [Exit.inBlock, Exit.then])
    go_wp2_with fail
    go_end0
    exact ⟨rfl, QW.trans HSUB.out HTA.out W5.out⟩
  · refine Hs.pick 8 (some 30) rfl ?_
    refine wpList_buildT rfl (.tmp 29) rfl (p, e) rfl ?_
    refine Hs.next (.of_below BA.out) ?_ (by simp only [Act.put, List.setIfInBounds_toArray, List.set_cons_succ, List.set_cons_zero]; rfl)
    refine Hs.only 4 (some 26) rfl ?_
    refine wpList_runTo' rfl (.slice A T.length c) _ (run_loadS (HBA.out.cell (i := 0) rfl) rfl) ?_
    refine Hs.next (Touch.refl _ _) ?_
    refine Hs.only 9 (some 31) rfl ?_
    refine wpList_app2 rfl (.tmp 26) (.tmp 30) 30 rfl 0 44 _ 8 72 Try.underlying30 told_info rfl (by omega) A T.length c (tls T) rfl HOA.out _ _ 1 1 (tcs (p, e)) rfl HN.out (tcs_one (p, e)) (by have := HL.out; unfold maxLen; omega) (by have := HL.out; omega) (Nat.zero_le _) ?_
    intro A2 c2 w5 O5 g5 h5
    refine Hs.next ((Touch.of_bk g5).wide (fun k hk => List.mem_cons_of_mem _ hk)) ?_ (by simp only [Act.put, List.setIfInBounds_toArray, List.set_cons_succ, List.set_cons_zero]; rfl)
    have K5 : Blk w5 g 59 [.slice A T.length c, .map (some b)] := HBA.out.touch (Touch.of_bk g5) (fun hm => HG.out (mem_bl.1 hm))
    have W5 := Lib.hid (Qu.app HBA.out HOA.out HMA.out HL.out g5 h5 O5)
    clear O5 h5
    refine Hs.take (v := .pointer (some ⟨g, 0, none⟩)) 10 32 rfl ?_ (fun _ _ => rfl)
    refine Hs.take (v := .pointer (some ⟨g, 0, none⟩)) 11 33 rfl ?_ (fun w' hw' => by go_simp)
    refine Hs.only 12 none rfl ?_
    refine wpList_skipTo rfl rfl _ (run_storeS (K5.cell (i := 0) rfl) (K5.free 0) rfl rfl) ?_
    refine Hs.next ((Touch.of_grown (grown_set w5 g 0 _)).wide (by simp)) ?_ rfl
    refine Hs.done ?_
    clear K5 g5
    (try simp only [Exit.inBlock, Exit.then])
    go_wp2_with fail
    go_end0
    exact ⟨rfl, QW.trans HSUB.out HTA.out W5.out⟩
/-- Told: it stands behind what was told. -/
theorem tell_c (w : World) (g : Nat) (F : List Nat) (T : List Tl) (h : Qu w g F T) (p : Int) (e : Ent) (hf : PEnt.Fit e) (hl : T.length < 1000000) :
    Calls Try.prog 28 #[.pointer (some ⟨g, 0, none⟩), .int .i64 p, ev e] w fun x w' => x = .returned (.tuple #[]) ∧ QW w w' g F (T ++ [(p, e)]) := by
  obtain ⟨A, c, q, hB, hO, hM, hF⟩ := h.ex
  rcases hM with ⟨hq, hT⟩ | ⟨b, hq, hM⟩
  · cases hq
    exact tell_none w g F T A c hB hO hT (by rw [hF]; simp [ml]) p e hf hl
  · cases hq
    exact tell_some w g F T A c b hB hO hM hF p e hf hl
end Go.Proofs.Ythmcjehpmfebaaa
