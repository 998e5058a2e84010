/- Contract of the queue's tell. -/
import Derived.Test.YthmcjehpmfebaaaReadyB
namespace Go.Proofs.Ythmcjehpmfebaaa
open Go.RowKit PReady

theorem Ow.noMap {w : World} {B k n c b : Nat} {t : TypeId} {A : Option Addr} {xs : List Value} {T : List Tl} (hO : Ow w B t k A n c xs) (hM : Mb w b T) : bk A ≠ Option.some b := by
  intro e
  obtain ⟨D, ⟨es, clock, hb, _⟩, _⟩ := hM
  rcases hO.2 with ⟨rfl, _⟩ | ⟨j, Z, rfl, _, hk, _⟩
  · cases e
  · have : j = b := by simpa [bk] using e
    subst this
    have h' := hb.symm.trans hk
    cases h'
/-- Behind an append to its slice, stored. -/
theorem Qu.app {w w2 : World} {g b c c2 : Nat} {A A2 : Option Addr} {T : List Tl} {t : Tl} (hB : Blk w g 59 [.slice A T.length c, .map (some b)]) (hO : Ow w 0 44 8 A T.length c (tls T)) (hM : Mb w b (T ++ [t])) (hl : T.length < 1000000)
    (hg : w.grownBy w2 (bk A)) (hA : ∀ k, bk A2 = some k → bk A = some k ∨ w.heap.size ≤ k) (hO2 : Ow w2 0 44 8 A2 (T.length + 1) c2 (tls T ++ tcs t)) :
    QW w (w2.setCell ⟨g, 0, none⟩ (.slice A2 (T.length + 1) c2)) g (g :: (bl A ++ [b])) (T ++ [t]) := by
  have hne : bk A ≠ some g := hO.ne hB (by decide)
  have hgb : b ≠ g := hM.ne hB
  have hAb : bk A ≠ some b := hO.noMap hM
  have hT : Touch (g :: (bl A ++ [b])) w w2 := (Touch.of_bk hg).wide (fun k hk => List.mem_cons_of_mem _ (List.mem_append_left _ hk))
  have hB2 : Blk w2 g 59 [.slice A T.length c, .map (some b)] := hB.touch (Touch.of_bk hg) (fun hm => hne (mem_bl.1 hm))
  have hM2 : Mb w2 b (T ++ [t]) := hM.touch (Touch.of_bk hg) (fun hm => hAb (mem_bl.1 hm))
  have hne2 : bk A2 ≠ some g := hO2.ne hB2 (by decide)
  have hs := Touch.of_grown (grown_set w2 g 0 (.slice A2 (T.length + 1) c2))
  have e1 : tls (T ++ [t]) = tls T ++ tcs t := by rw [tls_append]; simp [tls]
  refine ⟨⟨g :: (bl A2 ++ [b]), ⟨⟨A2, c2, some b, ?_, ?_, .inr ⟨b, rfl, hM2.touch hs (by simpa using hgb)⟩, rfl⟩, by simp; omega⟩, fun k hk => ?_⟩, hT.trans (hs.wide (by simp))⟩
  · have := hB2.set 0 (.slice A2 (T.length + 1) c2)
    simpa using this
  · have := hO2.touch hs (by simpa using hne2)
    rw [e1]; simpa using this
  · rcases List.mem_cons.1 hk with rfl | hk
    · exact .inl (List.mem_cons_self ..)
    · rcases List.mem_append.1 hk with hk | hk
      · rcases hA k (mem_bl.1 hk) with q | q
        · exact .inl (List.mem_cons_of_mem _ (List.mem_append_left _ (mem_bl.2 q)))
        · exact .inr q
      · exact .inl (List.mem_cons_of_mem _ (List.mem_append_right _ hk))

/-- A Told is built. -/
theorem run_buildT {w : World} {dst : Option Tmp} {x y : Operand} {ty : TypeId} {pos : String} {after : Array Edge} {guard : Option (Nat × Bool)} {ρ : Operand → Value} {p : Int} {e : Ent}
    (hx : ρ x = .int .i64 p) (hy : ρ y = ev e) : (execOp ρ { dst, op := .build 44 #[(0, x), (1, y)], type := ty, pos, after, guard }).run Try.prog w = .ok (.value (tv (p, e))) w := by
  unfold ev at hy
  unfold tv
  go_simp
/-- Behind a call that turned some of what may turn. -/
theorem Touch.trans4 {S S' : List Nat} {a b c : World} (h : Touch S a b) (k : Touch S' b c) (hs : ∀ x ∈ S', x ∈ S ∨ a.heap.size ≤ x) : Touch S a c :=
  ⟨k.os.trans h.os, k.tape.trans h.tape, k.output.trans h.output, Nat.le_trans h.size k.size, fun i hi hn => (k.block i (Nat.lt_of_lt_of_le hi h.size) (fun hm => (hs i hm).elim hn (fun h' => by omega))).trans (h.block i hi hn)⟩

set_option maxHeartbeats 8000000 in
set_option maxRecDepth 100000 in
/-- With a map. -/
theorem tell_some (w : World) (g : Nat) (F : List Nat) (T : List Tl) (A : Option Addr) (c b : Nat) (hB0 : Blk w g 59 [.slice A T.length c, .map (some b)]) (hO0 : Ow w 0 44 8 A T.length c (tls T)) (hM0 : Mb w b T) (hS : F = g :: (bl A ++ [b]))
    (p : Int) (e : Ent) (hf : PEnt.Fit e) (hl : T.length < 1000000) :
    Calls Try.prog 28 #[.pointer (some ⟨g, 0, none⟩), .int .i64 p, ev e] w fun x w' => x = .returned (.tuple #[]) ∧ QW w w' g F (T ++ [(p, e)]) := by
  have B0 := (Below.refl w.heap.size w).alloc (Nat.le_refl _) (.cells #[.int .i64 e.fr, .int .i64 e.boot, .int .i64 e.seq, .int .i64 e.ord, .int .i64 e.lev, .int .i64 e.stamp, .string e.data] 39)
  have K := Blk.newEnt w 39 e
  have hB := hB0.past B0
  have hO := hO0.past B0
  have hM := hM0.touch (S := []) (.of_below B0) (by simp)
  have HF := Lib.hid hf
  have HL := Lib.hid hl
  have HSUB := Lib.hid (show ∀ k ∈ g :: (bl A ++ [b]), k ∈ F ∨ w.heap.size ≤ k from fun k hk => .inl (by rw [hS]; exact hk))
  have hTT := Touch.of_below (S := F) B0
  have hnil : ∀ W, (binOp .eql 57 (.map (some b)) (.map none)).run Try.prog W = .ok (.bool false) W := fun W => run_eql_map_nil W _ _ _ (some b) Try.underlying57
  have d1 := hB.cell (i := 1) rfl
  clear hB0 hO0 hM0 hS hf hl B0
  show Calls _ _ #[_, _, .agg #[.int .i64 e.fr, .int .i64 e.boot, .int .i64 e.seq, .int .i64 e.ord, .int .i64 e.lev, .int .i64 e.stamp, .string e.data]] _ _
  go_enter Try.func28, Try.ntmps28
  go_wp2_with fail
  generalize (w.alloc (.cells #[.int .i64 e.fr, .int .i64 e.boot, .int .i64 e.seq, .int .i64 e.ord, .int .i64 e.lev, .int .i64 e.stamp, .string e.data] 39)) = w2 at *
  have HB := Lib.hid (show Blk w2.drew g 59 _ from hB)
  have HO := Lib.hid (show Ow w2.drew 0 44 8 A T.length c (tls T) from hO)
  have HM := Lib.hid (show Mb w2.drew b T from hM)
  have HK := Lib.hid (show Blk w2.drew w.heap.size 39 (ecs e) from K)
  have HT := Lib.hid (show Touch F w w2.drew from hTT.drew)
  have GB := Lib.hid (show g ∉ [b] from fun hm => HM.out.ne HB.out (List.mem_singleton.1 hm).symm)
  have KB := Lib.hid (show w.heap.size ∉ [b] from fun hm => HM.out.ne HK.out (List.mem_singleton.1 hm).symm)
  have AB := Lib.hid (show bk A ≠ some b from HO.out.noMap HM.out)
  clear hB hO hM K hTT d1 hnil
  refine Hs.begin [b] ?_
  refine Hs.take (v := .pointer (some ⟨g, 0, none⟩)) 0 15 rfl ?_ (fun _ _ => rfl)
  refine Hs.take (v := .pointer (some ⟨g, 0, none⟩)) 1 16 rfl ?_ (fun _ _ => rfl)
  refine Hs.take (v := .pointer (some ⟨g, 1, none⟩)) 2 17 rfl ?_ (fun w' hw' => by go_simp)
  refine Hs.take (v := .map (some b)) 3 18 rfl ?_ (fun w' hw' => run_loadM ((HB.out.touch hw' GB.out).cell (i := 1) rfl) rfl)
  refine Hs.take (v := ev e) 4 19 rfl ?_ (fun w' hw' => run_loadE ((HK.out.touch hw' KB.out).range) rfl)
  refine Hs.take (v := .agg #[]) 6 21 rfl ?_ (fun w' hw' => by go_simp)
  refine Hs.call (f := 30) (args := #[ev e]) 5 20 rfl ?_ (run_callf Try.func30 (by kernel_rfl) (by kernel_rfl) (by simp only [List.map_toArray, List.map_cons, List.map_nil]; rfl))
  refine (broadcastOf_c _ e).mono ?_
  rintro x w3 ⟨rfl, b3⟩
  have T3 := Lib.hid (show Touch [b] w2.drew w3 from .of_below b3)
  have M3 := Lib.hid (show Mb w3 b T from HM.out.touch (S := []) (.of_below b3) (by simp))
  clear b3
  refine Hs.back T3.out ?_
  refine Hs.only 7 none rfl ?_
  refine wpList_putB rfl (.tmp 18) (.tmp 20) (.tmp 21) rfl M3.out (p, e) HF.out (by have := HL.out; unfold maxLen; omega) rfl rfl rfl ?_
  intro w4 m4 g4
  have T4 := Lib.hid (T3.out.trans (Touch.of_grown g4)).drew
  refine Hs.next (Touch.of_grown g4) ?_ rfl
  refine Hs.done ?_
  have HB4 := Lib.hid (show Blk w4.drew g 59 _ from HB.out.touch T4.out GB.out)
  have HO4 := Lib.hid (show Ow w4.drew 0 44 8 A T.length c (tls T) from HO.out.touch T4.out (fun s hs => by rw [List.mem_singleton.1 hs]; exact AB.out))
  have HM4 := Lib.hid (show Mb w4.drew b (T ++ [(p, e)]) from m4)
  have HK4 := Lib.hid (show Blk w4.drew w.heap.size 39 (ecs e) from HK.out.touch T4.out KB.out)
  have HT4 := Lib.hid (show Touch F w w4.drew from HT.out.trans4 T4.out (fun x hx => HSUB.out x (List.mem_cons_of_mem _ (List.mem_append_right _ hx))))
  have HG := Lib.hid (show bk A ≠ some g from HO4.out.ne HB4.out (by decide))
  have KG := Lib.hid (show w.heap.size ∉ g :: bl A from fun hm => by
    rcases List.mem_cons.1 hm with h | h
    · exact HK4.out.ne HB4.out (by decide) h
    · exact HO4.out.ne HK4.out (by decide) (mem_bl.1 h))
  clear m4 g4 T3 M3 T4 HB HO HM HK HT
  go_wp2_with fail
  refine Hs.begin (g :: bl A) ?_
  refine Hs.take (v := .pointer (some ⟨g, 0, none⟩)) 0 22 rfl ?_ (fun _ _ => rfl)
  refine Hs.take (v := .pointer (some ⟨g, 0, none⟩)) 1 23 rfl ?_ (fun _ _ => rfl)
  refine Hs.take (v := .pointer (some ⟨g, 0, none⟩)) 2 24 rfl ?_ (fun _ _ => rfl)
  refine Hs.take (v := .pointer (some ⟨g, 0, none⟩)) 3 25 rfl ?_ (fun w' hw' => by go_simp)
  refine Hs.take (v := .int .i64 p) 5 27 rfl ?_ (fun _ _ => rfl)
  refine Hs.take (v := ev e) 6 28 rfl ?_ (fun w' hw' => run_loadE ((HK4.out.touch hw' KG.out).range) rfl)
  refine Hs.take (v := tv (p, e)) 7 29 rfl ?_ (fun w' hw' => run_buildT rfl rfl)
  have BA := Lib.hid (show Below w4.drew.heap.size w4.drew (w4.drew.alloc (.cells (tcs (p, e)).toArray 44)) from (Below.refl _ _).alloc (Nat.le_refl _) _)
  have HBA := Lib.hid (HB4.out.past BA.out)
  have HOA := Lib.hid (HO4.out.past BA.out)
  have HMA := Lib.hid (HM4.out.touch (S := []) (.of_below BA.out) (by simp))
  have HTA := Lib.hid (HT4.out.trans (.of_below BA.out))
  have HN := Lib.hid (Rd.new w4.drew (tcs (p, e)).toArray 44 8 1 rfl (by unfold maxLen; omega))
  refine Hs.two 4 8 ?_ ?_
  · refine Hs.pick 4 (some 26) rfl ?_
    refine wpList_runTo' rfl (.slice A T.length c) _ (run_loadS (HB4.out.cell (i := 0) rfl) rfl) ?_
    refine Hs.next (Touch.refl _ _) ?_
    refine Hs.only 8 (some 30) rfl ?_
    refine wpList_buildT rfl (.tmp 29) rfl (p, e) rfl ?_
    refine Hs.next (.of_below BA.out) ?_ (by simp only [Act.put, List.setIfInBounds_toArray, List.set_cons_succ, List.set_cons_zero]; rfl)
    refine Hs.only 9 (some 31) rfl ?_
    refine wpList_app2 rfl (.tmp 26) (.tmp 30) 30 rfl 0 44 _ 8 72 Try.underlying30 told_info rfl (by omega) A T.length c (tls T) rfl HOA.out _ _ 1 1 (tcs (p, e)) rfl HN.out (tcs_one (p, e)) (by have := HL.out; unfold maxLen; omega) (by have := HL.out; omega) (Nat.zero_le _) ?_
    intro A2 c2 w5 O5 g5 h5
    refine Hs.next ((Touch.of_bk g5).wide (fun k hk => List.mem_cons_of_mem _ hk)) ?_ (by simp only [Act.put, List.setIfInBounds_toArray, List.set_cons_succ, List.set_cons_zero]; rfl)
    have K5 : Blk w5 g 59 [.slice A T.length c, .map (some b)] := HBA.out.touch (Touch.of_bk g5) (fun hm => HG.out (mem_bl.1 hm))
    have W5 := Lib.hid (Qu.app HBA.out HOA.out HMA.out HL.out g5 h5 O5)
    clear O5 h5
    refine Hs.take (v := .pointer (some ⟨g, 0, none⟩)) 10 32 rfl ?_ (fun _ _ => rfl)
    refine Hs.take (v := .pointer (some ⟨g, 0, none⟩)) 11 33 rfl ?_ (fun w' hw' => by go_simp)
    refine Hs.only 12 none rfl ?_
    refine wpList_skipTo rfl rfl _ (run_storeS (K5.cell (i := 0) rfl) (K5.free 0) rfl rfl) ?_
    refine Hs.next ((Touch.of_grown (grown_set w5 g 0 _)).wide (by simp)) ?_ rfl
    refine Hs.done ?_
    clear K5 g5
    (try simp only [Exit.inBlock, Exit.then])
    go_wp2_with fail
    go_end0
    exact ⟨rfl, QW.trans HSUB.out HTA.out W5.out⟩
  · refine Hs.pick 8 (some 30) rfl ?_
    refine wpList_buildT rfl (.tmp 29) rfl (p, e) rfl ?_
    refine Hs.next (.of_below BA.out) ?_ (by simp only [Act.put, List.setIfInBounds_toArray, List.set_cons_succ, List.set_cons_zero]; rfl)
    refine Hs.only 4 (some 26) rfl ?_
    refine wpList_runTo' rfl (.slice A T.length c) _ (run_loadS (HBA.out.cell (i := 0) rfl) rfl) ?_
    refine Hs.next (Touch.refl _ _) ?_
    refine Hs.only 9 (some 31) rfl ?_
    refine wpList_app2 rfl (.tmp 26) (.tmp 30) 30 rfl 0 44 _ 8 72 Try.underlying30 told_info rfl (by omega) A T.length c (tls T) rfl HOA.out _ _ 1 1 (tcs (p, e)) rfl HN.out (tcs_one (p, e)) (by have := HL.out; unfold maxLen; omega) (by have := HL.out; omega) (Nat.zero_le _) ?_
    intro A2 c2 w5 O5 g5 h5
    refine Hs.next ((Touch.of_bk g5).wide (fun k hk => List.mem_cons_of_mem _ hk)) ?_ (by simp only [Act.put, List.setIfInBounds_toArray, List.set_cons_succ, List.set_cons_zero]; rfl)
    have K5 : Blk w5 g 59 [.slice A T.length c, .map (some b)] := HBA.out.touch (Touch.of_bk g5) (fun hm => HG.out (mem_bl.1 hm))
    have W5 := Lib.hid (Qu.app HBA.out HOA.out HMA.out HL.out g5 h5 O5)
    clear O5 h5
    refine Hs.take (v := .pointer (some ⟨g, 0, none⟩)) 10 32 rfl ?_ (fun _ _ => rfl)
    refine Hs.take (v := .pointer (some ⟨g, 0, none⟩)) 11 33 rfl ?_ (fun w' hw' => by go_simp)
    refine Hs.only 12 none rfl ?_
    refine wpList_skipTo rfl rfl _ (run_storeS (K5.cell (i := 0) rfl) (K5.free 0) rfl rfl) ?_
    refine Hs.next ((Touch.of_grown (grown_set w5 g 0 _)).wide (by simp)) ?_ rfl
    refine Hs.done ?_
    clear K5 g5
    (try simp only [Exit.inBlock, Exit.then])
    go_wp2_with fail
    go_end0
    exact ⟨rfl, QW.trans HSUB.out HTA.out W5.out⟩
end Go.Proofs.Ythmcjehpmfebaaa
