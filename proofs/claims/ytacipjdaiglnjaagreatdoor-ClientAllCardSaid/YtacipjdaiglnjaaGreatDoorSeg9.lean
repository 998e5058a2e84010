/- Contract of the queue's Has; small laws. -/
import Derived.Test.YtacipjdaiglnjaaGreatDoorSeg8
import Derived.Test.YtacipjdaiglnjaaGreatDoorSeg4
namespace Go.Proofs.YtacipjdaiglnjaaGreatDoor
open Go.RowKit PReady

theorem Mq.below {w w' : World} {B : Nat} {M : Value} {T : List Tl} (h : Mq w M T) (hb : Below B w w') (hB : ∀ k ∈ ml M, k < B) : Mq w' M T := by
  rcases h with h | ⟨b, rfl, D, h1, h2⟩
  · exact .inl h
  · refine .inr ⟨b, rfl, D, ?_, h2⟩
    obtain ⟨es, clock, hbk, r⟩ := h1
    exact ⟨es, clock, (hb.block b (hB b (List.mem_singleton.2 rfl))).trans hbk, r⟩
/-- A slice is stored into its cell. -/
theorem run_storeS {w : World} {dst : Option Tmp} {x y : Operand} {ty : TypeId} {pos : String} {after : Array Edge} {guard : Option (Nat × Bool)} {ρ : Operand → Value} {g i : Nat} {A A' : Option Addr} {n c n' c' : Nat}
    (h : w.cell? ⟨g, i, none⟩ = some (.slice A' n' c')) (hf : w.frozen? ⟨g, i, none⟩ = false) (hx : ρ x = .pointer (some ⟨g, i, none⟩)) (hy : ρ y = .slice A n c) :
    (execOp ρ { dst, op := .store 28 x y, type := ty, pos, after, guard }).run Tryz.prog w = .ok .skip (w.setCell ⟨g, i, none⟩ (.slice A n c)) := by
  go_simp

set_option maxHeartbeats 4000000 in
set_option maxRecDepth 100000 in
theorem rdHas_c (w : World) (g : Nat) (F : List Nat) (T : List Tl) (h : Qu w g F T) (e : Ent) (hf : PEnt.Fit e) :
    Calls Tryz.prog 172 #[.pointer (some ⟨g, 0, none⟩), ev e] w fun x w' => x = .returned (.bool (has T e)) ∧ Below w.heap.size w w' := by
  have B0 := Lib.hid ((Below.refl w.heap.size w).alloc (Nat.le_refl _) (.cells #[.int .i64 e.fr, .int .i64 e.boot, .int .i64 e.seq, .int .i64 e.ord, .int .i64 e.lev, .int .i64 e.stamp, .string e.data] 93))
  have K := Blk.newEnt w 93 e
  obtain ⟨A, c, q, hB, -, hM, -⟩ := (h.alloc (.cells #[.int .i64 e.fr, .int .i64 e.boot, .int .i64 e.seq, .int .i64 e.ord, .int .i64 e.lev, .int .i64 e.stamp, .string e.data] 93)).ex
  have HF := Lib.hid hf
  clear h hf
  show Calls _ _ #[_, .agg #[.int .i64 e.fr, .int .i64 e.boot, .int .i64 e.seq, .int .i64 e.ord, .int .i64 e.lev, .int .i64 e.stamp, .string e.data]] _ _
  go_enter Tryz.func172, Tryz.ntmps172
  go_wp2_with fail
  generalize (w.alloc (.cells #[.int .i64 e.fr, .int .i64 e.boot, .int .i64 e.seq, .int .i64 e.ord, .int .i64 e.lev, .int .i64 e.stamp, .string e.data] 93)) = w1 at *
  have HB := Lib.hid (show Blk w1.drew g 135 _ from hB)
  have HM := Lib.hid (show Mq w1.drew (.map q) T from hM)
  have HMB := Lib.hid (show ∀ k ∈ ml (.map q), k < w1.heap.size from hM.hi)
  have HK := Lib.hid (show Blk w1.drew w.heap.size 93 (ecs e) from K)
  have LG := Lib.hid (show g < w1.heap.size from hB.lt)
  have LK := Lib.hid (show w.heap.size < w1.heap.size from K.lt)
  clear hB hM K
  have BD := Lib.hid (show Below w1.heap.size w1 w1.drew from (Below.refl _ _).drew)
  refine Hb.begin ?_
  refine Hb.take (v := .pointer (some ⟨g, 0, none⟩)) 0 10 rfl ?_ (fun _ _ => rfl)
  refine Hb.take (v := .pointer (some ⟨g, 0, none⟩)) 1 11 rfl ?_ (fun _ _ => rfl)
  refine Hb.take (v := .pointer (some ⟨g, 1, none⟩)) 2 12 rfl ?_ (fun w' hw' => by go_simp)
  refine Hb.take (v := .map q) 3 13 rfl ?_ (fun w' hw' => run_loadMap ((HB.out.below hw' LG.out).cell (i := 1) rfl) rfl)
  refine Hb.take (v := ev e) 4 14 rfl ?_ (fun w' hw' => run_loadE ((HK.out.below hw' LK.out).range) rfl)
  refine Hb.two 5 10 ?_ ?_
  · refine Hb.pickCall (f := 176) (args := #[ev e]) 5 15 rfl ?_ (run_callf Tryz.func176 (by kernel_rfl) (by kernel_rfl) (by simp only [List.map_toArray, List.map_cons, List.map_nil]; rfl))
    refine (broadcastOf_c _ e).mono ?_
    rintro x w3 ⟨rfl, b3⟩
    refine Hb.back (B' := w1.heap.size) (show Below w1.heap.size _ w3 from b3) (Nat.le_refl _) ?_
    refine Hb.take (v := .tuple #[.agg #[], .bool (has T e)]) 6 16 rfl ?_ (fun w' hw' => run_lookB ((HM.out.below (show Below w1.heap.size _ w3 from b3) HMB.out).below hw' HMB.out) HF.out rfl rfl)
    refine Hb.take (v := .tuple #[.agg #[], .bool (has T e)]) 7 9 rfl ?_ (fun _ _ => rfl)
    refine Hb.take (v := .agg #[]) 8 17 rfl ?_ (fun w' hw' => by go_simp)
    refine Hb.take (v := .bool (has T e)) 9 18 rfl ?_ (fun w' hw' => by go_simp)
    refine Hb.only 10 (some 5) rfl ?_
    refine wpList_runTo' rfl (.pointer (some ⟨w3.heap.size, 0, none⟩)) (w3.alloc (.cells #[] 80)) (by go_simp) ?_
    have BS := Lib.hid (show w1.heap.size ≤ w3.heap.size from b3.size)
    have BU := Lib.hid ((Below.refl w1.heap.size w3).alloc BS.out (.cells #[] 80))
    have KU := Lib.hid (Blk.new w3 #[] 80)
    refine Hb.next (B' := w1.heap.size) BU.out (Nat.le_refl _) ?_ (by simp only [Act.put, List.setIfInBounds_toArray, List.set_cons_succ, List.set_cons_zero]; rfl)
    refine Hb.only 11 none rfl ?_
    refine wpList_store_row rfl 80 (.tmp 5) (.tmp 17) rfl w3.heap.size #[] rfl rfl 80 #[] KU.out (by kernel_rfl) rfl (by simp) ?_
    have BF := Lib.hid (grown_below (grown_row (w3.alloc (.cells #[] 80)) w3.heap.size #[]) (show w1.heap.size ≤ w3.heap.size from BS.out) (show w1.heap.size ≤ (w3.alloc (.cells #[] 80)).heap.size from Nat.le_trans BS.out BU.out.size))
    refine Hb.next (B' := w1.heap.size) BF.out (Nat.le_refl _) ?_ rfl
    refine Hb.take (v := .bool (has T e)) 12 6 rfl ?_ (fun _ _ => rfl)
    refine Hb.done ?_
    go_wp2_with fail
    go_ret
    exact ⟨rfl, B0.out.trans ((((BD.out.trans b3).trans BU.out).trans BF.out).mono B0.out.size)⟩
  · refine Hb.pick 10 (some 5) rfl ?_
    refine wpList_runTo' rfl (.pointer (some ⟨w1.drew.heap.size, 0, none⟩)) (w1.drew.alloc (.cells #[] 80)) (by go_simp) ?_
    have BU := Lib.hid ((Below.refl w1.heap.size w1.drew).alloc (Nat.le_refl _) (.cells #[] 80))
    have KU0 := Blk.new w1.drew #[] 80
    refine Hb.next (B' := w1.heap.size) BU.out (Nat.le_refl _) ?_ (by simp only [Act.put, List.setIfInBounds_toArray, List.set_cons_succ, List.set_cons_zero]; rfl)
    refine Hb.call (f := 176) (args := #[ev e]) 5 15 rfl ?_ (run_callf Tryz.func176 (by kernel_rfl) (by kernel_rfl) (by simp only [List.map_toArray, List.map_cons, List.map_nil]; rfl))
    refine (broadcastOf_c _ e).mono ?_
    rintro x w3 ⟨rfl, b3⟩
    have KU := Lib.hid (KU0.past b3)
    have B3 := Lib.hid (show Below w1.heap.size (w1.drew.alloc (.cells #[] 80)) w3 from b3.mono (by simp))
    have BS := Lib.hid (show w1.heap.size ≤ w3.heap.size from Nat.le_trans BU.out.size B3.out.size)
    clear KU0 b3
    refine Hb.back (B' := w1.heap.size) B3.out (Nat.le_refl _) ?_
    refine Hb.take (v := .tuple #[.agg #[], .bool (has T e)]) 6 16 rfl ?_ (fun w' hw' => run_lookB ((HM.out.below (BU.out.trans B3.out) HMB.out).below hw' HMB.out) HF.out rfl rfl)
    refine Hb.take (v := .tuple #[.agg #[], .bool (has T e)]) 7 9 rfl ?_ (fun _ _ => rfl)
    refine Hb.take (v := .agg #[]) 8 17 rfl ?_ (fun w' hw' => by go_simp)
    refine Hb.take (v := .bool (has T e)) 9 18 rfl ?_ (fun w' hw' => by go_simp)
    refine Hb.only 11 none rfl ?_
    refine wpList_store_row rfl 80 (.tmp 5) (.tmp 17) rfl w1.drew.heap.size #[] rfl rfl 80 #[] KU.out (by kernel_rfl) rfl (by simp) ?_
    have BF := Lib.hid (grown_below (grown_row w3 w1.drew.heap.size #[]) (show w1.heap.size ≤ w1.drew.heap.size from Nat.le_refl _) (show w1.heap.size ≤ w3.heap.size from BS.out))
    refine Hb.next (B' := w1.heap.size) BF.out (Nat.le_refl _) ?_ rfl
    refine Hb.take (v := .bool (has T e)) 12 6 rfl ?_ (fun _ _ => rfl)
    refine Hb.done ?_
    go_wp2_with fail
    go_ret
    exact ⟨rfl, B0.out.trans ((((BD.out.trans BU.out).trans B3.out).trans BF.out).mono B0.out.size)⟩
end Go.Proofs.YtacipjdaiglnjaaGreatDoor

/- Contract of the queue's tell. -/
namespace Go.Proofs.YtacipjdaiglnjaaGreatDoor
open Go.RowKit PReady

theorem Ow.noMap {w : World} {B k n c b : Nat} {t : TypeId} {A : Option Addr} {xs : List Value} {T : List Tl} (hO : Ow w B t k A n c xs) (hM : Mb w b T) : bk A ≠ Option.some b := by
  intro e
  obtain ⟨D, ⟨es, clock, hb, _⟩, _⟩ := hM
  rcases hO.2 with ⟨rfl, _⟩ | ⟨j, Z, rfl, _, hk, _⟩
  · cases e
  · have : j = b := by simpa [bk] using e
    subst this
    have h' := hb.symm.trans hk
    cases h'
/-- Behind an append to its slice, stored. -/
theorem Qu.app {w w2 : World} {g b c c2 : Nat} {A A2 : Option Addr} {T : List Tl} {t : Tl} (hB : Blk w g 135 [.slice A T.length c, .map (some b)]) (hO : Ow w 0 95 8 A T.length c (tls T)) (hM : Mb w b (T ++ [t])) (hl : T.length < 1000000)
    (hg : w.grownBy w2 (bk A)) (hA : ∀ k, bk A2 = some k → bk A = some k ∨ w.heap.size ≤ k) (hO2 : Ow w2 0 95 8 A2 (T.length + 1) c2 (tls T ++ tcs t)) :
    QW w (w2.setCell ⟨g, 0, none⟩ (.slice A2 (T.length + 1) c2)) g (g :: (bl A ++ [b])) (T ++ [t]) := by
  have hne : bk A ≠ some g := hO.ne hB (by decide)
  have hgb : b ≠ g := hM.ne hB
  have hAb : bk A ≠ some b := hO.noMap hM
  have hT : Touch (g :: (bl A ++ [b])) w w2 := (Touch.of_bk hg).wide (fun k hk => List.mem_cons_of_mem _ (List.mem_append_left _ hk))
  have hB2 : Blk w2 g 135 [.slice A T.length c, .map (some b)] := hB.touch (Touch.of_bk hg) (fun hm => hne (mem_bl.1 hm))
  have hM2 : Mb w2 b (T ++ [t]) := hM.touch (Touch.of_bk hg) (fun hm => hAb (mem_bl.1 hm))
  have hne2 : bk A2 ≠ some g := hO2.ne hB2 (by decide)
  have hs := Touch.of_grown (grown_set w2 g 0 (.slice A2 (T.length + 1) c2))
  have e1 : tls (T ++ [t]) = tls T ++ tcs t := by rw [tls_append]; simp [tls]
  refine ⟨⟨g :: (bl A2 ++ [b]), ⟨⟨A2, c2, some b, ?_, ?_, .inr ⟨b, rfl, hM2.touch hs (by simpa using hgb)⟩, rfl⟩, by simp; omega⟩, fun k hk => ?_⟩, hT.trans (hs.wide (by simp))⟩
  · have := hB2.set 0 (.slice A2 (T.length + 1) c2)
    simpa using this
  · have := hO2.touch hs (by simpa using hne2)
    rw [e1]; simpa using this
  · rcases List.mem_cons.1 hk with rfl | hk
    · exact .inl (List.mem_cons_self ..)
    · rcases List.mem_append.1 hk with hk | hk
      · rcases hA k (mem_bl.1 hk) with q | q
        · exact .inl (List.mem_cons_of_mem _ (List.mem_append_left _ (mem_bl.2 q)))
        · exact .inr q
      · exact .inl (List.mem_cons_of_mem _ (List.mem_append_right _ hk))

/-- A Told is built. -/
theorem run_buildT {w : World} {dst : Option Tmp} {x y : Operand} {ty : TypeId} {pos : String} {after : Array Edge} {guard : Option (Nat × Bool)} {ρ : Operand → Value} {p : Int} {e : Ent}
    (hx : ρ x = .int .i64 p) (hy : ρ y = ev e) : (execOp ρ { dst, op := .build 95 #[(0, x), (1, y)], type := ty, pos, after, guard }).run Tryz.prog w = .ok (.value (tldv (p, e))) w := by
  unfold ev at hy
  unfold tldv
  go_simp
/-- Behind a call that turned some of what may turn. -/
theorem Touch.trans4 {S S' : List Nat} {a b c : World} (h : Touch S a b) (k : Touch S' b c) (hs : ∀ x ∈ S', x ∈ S ∨ a.heap.size ≤ x) : Touch S a c :=
  ⟨k.os.trans h.os, k.tape.trans h.tape, k.output.trans h.output, Nat.le_trans h.size k.size, fun i hi hn => (k.block i (Nat.lt_of_lt_of_le hi h.size) (fun hm => (hs i hm).elim hn (fun h' => by omega))).trans (h.block i hi hn)⟩

set_option maxHeartbeats 8000000 in
set_option maxRecDepth 100000 in
/-- With a map. -/
theorem tell_some (w : World) (g : Nat) (F : List Nat) (T : List Tl) (A : Option Addr) (c b : Nat) (hB0 : Blk w g 135 [.slice A T.length c, .map (some b)]) (hO0 : Ow w 0 95 8 A T.length c (tls T)) (hM0 : Mb w b T) (hS : F = g :: (bl A ++ [b]))
    (p : Int) (e : Ent) (hf : PEnt.Fit e) (hl : T.length < 1000000) :
    Calls Tryz.prog 127 #[.pointer (some ⟨g, 0, none⟩), .int .i64 p, ev e] w fun x w' => x = .returned (.tuple #[]) ∧ QW w w' g F (T ++ [(p, e)]) := by
  have B0 := (Below.refl w.heap.size w).alloc (Nat.le_refl _) (.cells #[.int .i64 e.fr, .int .i64 e.boot, .int .i64 e.seq, .int .i64 e.ord, .int .i64 e.lev, .int .i64 e.stamp, .string e.data] 93)
  have K := Blk.newEnt w 93 e
  have hB := hB0.past B0
  have hO := hO0.past B0
  have hM := hM0.touch (S := []) (.of_below B0) (by simp)
  have HF := Lib.hid hf
  have HL := Lib.hid hl
  have HSUB := Lib.hid (show ∀ k ∈ g :: (bl A ++ [b]), k ∈ F ∨ w.heap.size ≤ k from fun k hk => .inl (by rw [hS]; exact hk))
  have hTT := Touch.of_below (S := F) B0
  have hnil : ∀ W, (binOp .eql 133 (.map (some b)) (.map none)).run Tryz.prog W = .ok (.bool false) W := fun W => run_eql_map_nil W _ _ _ (some b) Tryz.underlying133
  have d1 := hB.cell (i := 1) rfl
  clear hB0 hO0 hM0 hS hf hl B0
  show Calls _ _ #[_, _, .agg #[.int .i64 e.fr, .int .i64 e.boot, .int .i64 e.seq, .int .i64 e.ord, .int .i64 e.lev, .int .i64 e.stamp, .string e.data]] _ _
  go_enter Tryz.func127, Tryz.ntmps127
  go_wp2_with fail
  generalize (w.alloc (.cells #[.int .i64 e.fr, .int .i64 e.boot, .int .i64 e.seq, .int .i64 e.ord, .int .i64 e.lev, .int .i64 e.stamp, .string e.data] 93)) = w2 at *
  have HB := Lib.hid (show Blk w2.drew g 135 _ from hB)
  have HO := Lib.hid (show Ow w2.drew 0 95 8 A T.length c (tls T) from hO)
  have HM := Lib.hid (show Mb w2.drew b T from hM)
  have HK := Lib.hid (show Blk w2.drew w.heap.size 93 (ecs e) from K)
  have HT := Lib.hid (show Touch F w w2.drew from hTT.drew)
  have GB := Lib.hid (show g ∉ [b] from fun hm => HM.out.ne HB.out (List.mem_singleton.1 hm).symm)
  have KB := Lib.hid (show w.heap.size ∉ [b] from fun hm => HM.out.ne HK.out (List.mem_singleton.1 hm).symm)
  have AB := Lib.hid (show bk A ≠ some b from HO.out.noMap HM.out)
  clear hB hO hM K hTT d1 hnil
  refine Hs.begin [b] ?_
  refine Hs.take (v := .pointer (some ⟨g, 0, none⟩)) 0 15 rfl ?_ (fun _ _ => rfl)
  refine Hs.take (v := .pointer (some ⟨g, 0, none⟩)) 1 16 rfl ?_ (fun _ _ => rfl)
  refine Hs.take (v := .pointer (some ⟨g, 1, none⟩)) 2 17 rfl ?_ (fun w' hw' => by go_simp)
  refine Hs.take (v := .map (some b)) 3 18 rfl ?_ (fun w' hw' => run_loadMap ((HB.out.touch hw' GB.out).cell (i := 1) rfl) rfl)
  refine Hs.take (v := ev e) 4 19 rfl ?_ (fun w' hw' => run_loadE ((HK.out.touch hw' KB.out).range) rfl)
  refine Hs.take (v := .agg #[]) 6 21 rfl ?_ (fun w' hw' => by go_simp)
  refine Hs.call (f := 176) (args := #[ev e]) 5 20 rfl ?_ (run_callf Tryz.func176 (by kernel_rfl) (by kernel_rfl) (by simp only [List.map_toArray, List.map_cons, List.map_nil]; rfl))
  refine (broadcastOf_c _ e).mono ?_
  rintro x w3 ⟨rfl, b3⟩
  have T3 := Lib.hid (show Touch [b] w2.drew w3 from .of_below b3)
  have M3 := Lib.hid (show Mb w3 b T from HM.out.touch (S := []) (.of_below b3) (by simp))
  clear b3
  refine Hs.back T3.out ?_
  refine Hs.only 7 none rfl ?_
  refine wpList_putB rfl (.tmp 18) (.tmp 20) (.tmp 21) rfl M3.out (p, e) HF.out (by have := HL.out; unfold maxLen; omega) rfl rfl rfl ?_
  intro w4 m4 g4
  have T4 := Lib.hid (T3.out.trans (Touch.of_grown g4)).drew
  refine Hs.next (Touch.of_grown g4) ?_ rfl
  refine Hs.done ?_
  have HB4 := Lib.hid (show Blk w4.drew g 135 _ from HB.out.touch T4.out GB.out)
  have HO4 := Lib.hid (show Ow w4.drew 0 95 8 A T.length c (tls T) from HO.out.touch T4.out (fun s hs => by rw [List.mem_singleton.1 hs]; exact AB.out))
  have HM4 := Lib.hid (show Mb w4.drew b (T ++ [(p, e)]) from m4)
  have HK4 := Lib.hid (show Blk w4.drew w.heap.size 93 (ecs e) from HK.out.touch T4.out KB.out)
  have HT4 := Lib.hid (show Touch F w w4.drew from HT.out.trans4 T4.out (fun x hx => HSUB.out x (List.mem_cons_of_mem _ (List.mem_append_right _ hx))))
  have HG := Lib.hid (show bk A ≠ some g from HO4.out.ne HB4.out (by decide))
  have KG := Lib.hid (show w.heap.size ∉ g :: bl A from fun hm => by
    rcases List.mem_cons.1 hm with h | h
    · exact HK4.out.ne HB4.out (by decide) h
    · exact HO4.out.ne HK4.out (by decide) (mem_bl.1 h))
  clear m4 g4 T3 M3 T4 HB HO HM HK HT
  go_wp2_with fail
  refine Hs.begin (g :: bl A) ?_
  refine Hs.take (v := .pointer (some ⟨g, 0, none⟩)) 0 22 rfl ?_ (fun _ _ => rfl)
  refine Hs.take (v := .pointer (some ⟨g, 0, none⟩)) 1 23 rfl ?_ (fun _ _ => rfl)
  refine Hs.take (v := .pointer (some ⟨g, 0, none⟩)) 2 24 rfl ?_ (fun _ _ => rfl)
  refine Hs.take (v := .pointer (some ⟨g, 0, none⟩)) 3 25 rfl ?_ (fun w' hw' => by go_simp)
  refine Hs.take (v := .int .i64 p) 5 27 rfl ?_ (fun _ _ => rfl)
  refine Hs.take (v := ev e) 6 28 rfl ?_ (fun w' hw' => run_loadE ((HK4.out.touch hw' KG.out).range) rfl)
  refine Hs.take (v := tldv (p, e)) 7 29 rfl ?_ (fun w' hw' => run_buildT rfl rfl)
  have BA := Lib.hid (show Below w4.drew.heap.size w4.drew (w4.drew.alloc (.cells (tcs (p, e)).toArray 95)) from (Below.refl _ _).alloc (Nat.le_refl _) _)
  have HBA := Lib.hid (HB4.out.past BA.out)
  have HOA := Lib.hid (HO4.out.past BA.out)
  have HMA := Lib.hid (HM4.out.touch (S := []) (.of_below BA.out) (by simp))
  have HTA := Lib.hid (HT4.out.trans (.of_below BA.out))
  have HN := Lib.hid (Rd.new w4.drew (tcs (p, e)).toArray 95 8 1 rfl (by unfold maxLen; omega))
  refine Hs.two 4 8 ?_ ?_
  · refine Hs.pick 4 (some 26) rfl ?_
    refine wpList_runTo' rfl (.slice A T.length c) _ (run_loadS (HB4.out.cell (i := 0) rfl) rfl) ?_
    refine Hs.next (Touch.refl _ _) ?_
    refine Hs.only 8 (some 30) rfl ?_
    refine wpList_buildT rfl (.tmp 29) rfl (p, e) rfl ?_
    refine Hs.next (.of_below BA.out) ?_ (by simp only [Act.put, List.setIfInBounds_toArray, List.set_cons_succ, List.set_cons_zero]; rfl)
    refine Hs.only 9 (some 31) rfl ?_
    refine wpList_app2 rfl (.tmp 26) (.tmp 30) 28 rfl 0 95 _ 8 72 Tryz.underlying28 told_info rfl (by omega) A T.length c (tls T) rfl HOA.out _ _ 1 1 (tcs (p, e)) rfl HN.out (tcs_one (p, e)) (by have := HL.out; unfold maxLen; omega) (by have := HL.out; omega) (Nat.zero_le _) ?_
    intro A2 c2 w5 O5 g5 h5
    refine Hs.next ((Touch.of_bk g5).wide (fun k hk => List.mem_cons_of_mem _ hk)) ?_ (by simp only [Act.put, List.setIfInBounds_toArray, List.set_cons_succ, List.set_cons_zero]; rfl)
    have K5 : Blk w5 g 135 [.slice A T.length c, .map (some b)] := HBA.out.touch (Touch.of_bk g5) (fun hm => HG.out (mem_bl.1 hm))
    have W5 := Lib.hid (Qu.app HBA.out HOA.out HMA.out HL.out g5 h5 O5)
    clear O5 h5
    refine Hs.take (v := .pointer (some ⟨g, 0, none⟩)) 10 32 rfl ?_ (fun _ _ => rfl)
    refine Hs.take (v := .pointer (some ⟨g, 0, none⟩)) 11 33 rfl ?_ (fun w' hw' => by go_simp)
    refine Hs.only 12 none rfl ?_
    refine wpList_skipTo rfl rfl _ (run_storeS (K5.cell (i := 0) rfl) (K5.free 0) rfl rfl) ?_
    refine Hs.next ((Touch.of_grown (grown_set w5 g 0 _)).wide (by simp)) ?_ rfl
    refine Hs.done ?_
    clear K5 g5
    (try simp only [Exit.inBlock, Exit.then])
    go_wp2_with fail
    go_end0
    exact ⟨rfl, QW.trans HSUB.out HTA.out W5.out⟩
  · refine Hs.pick 8 (some 30) rfl ?_
    refine wpList_buildT rfl (.tmp 29) rfl (p, e) rfl ?_
    refine Hs.next (.of_below BA.out) ?_ (by simp only [Act.put, List.setIfInBounds_toArray, List.set_cons_succ, List.set_cons_zero]; rfl)
    refine Hs.only 4 (some 26) rfl ?_
    refine wpList_runTo' rfl (.slice A T.length c) _ (run_loadS (HBA.out.cell (i := 0) rfl) rfl) ?_
    refine Hs.next (Touch.refl _ _) ?_
    refine Hs.only 9 (some 31) rfl ?_
    refine wpList_app2 rfl (.tmp 26) (.tmp 30) 28 rfl 0 95 _ 8 72 Tryz.underlying28 told_info rfl (by omega) A T.length c (tls T) rfl HOA.out _ _ 1 1 (tcs (p, e)) rfl HN.out (tcs_one (p, e)) (by have := HL.out; unfold maxLen; omega) (by have := HL.out; omega) (Nat.zero_le _) ?_
    intro A2 c2 w5 O5 g5 h5
    refine Hs.next ((Touch.of_bk g5).wide (fun k hk => List.mem_cons_of_mem _ hk)) ?_ (by simp only [Act.put, List.setIfInBounds_toArray, List.set_cons_succ, List.set_cons_zero]; rfl)
    have K5 : Blk w5 g 135 [.slice A T.length c, .map (some b)] := HBA.out.touch (Touch.of_bk g5) (fun hm => HG.out (mem_bl.1 hm))
    have W5 := Lib.hid (Qu.app HBA.out HOA.out HMA.out HL.out g5 h5 O5)
    clear O5 h5
    refine Hs.take (v := .pointer (some ⟨g, 0, none⟩)) 10 32 rfl ?_ (fun _ _ => rfl)
    refine Hs.take (v := .pointer (some ⟨g, 0, none⟩)) 11 33 rfl ?_ (fun w' hw' => by go_simp)
    refine Hs.only 12 none rfl ?_
    refine wpList_skipTo rfl rfl _ (run_storeS (K5.cell (i := 0) rfl) (K5.free 0) rfl rfl) ?_
    refine Hs.next ((Touch.of_grown (grown_set w5 g 0 _)).wide (by simp)) ?_ rfl
    refine Hs.done ?_
    clear K5 g5
    (try simp only [Exit.inBlock, Exit.then])
    go_wp2_with fail
    go_end0
    exact ⟨rfl, QW.trans HSUB.out HTA.out W5.out⟩
end Go.Proofs.YtacipjdaiglnjaaGreatDoor

/- Contract of the queue's tell where there is no map yet; both. -/
namespace Go.Proofs.YtacipjdaiglnjaaGreatDoor
open Go.RowKit PReady

set_option maxHeartbeats 8000000 in
set_option maxRecDepth 100000 in
/-- With no map. -/
theorem tell_none (w : World) (g : Nat) (F : List Nat) (T : List Tl) (A : Option Addr) (c : Nat) (hB0 : Blk w g 135 [.slice A T.length c, .map none]) (hO0 : Ow w 0 95 8 A T.length c (tls T)) (hT0 : T = []) (hS : F = g :: bl A)
    (p : Int) (e : Ent) (hf : PEnt.Fit e) (hl : T.length < 1000000) :
    Calls Tryz.prog 127 #[.pointer (some ⟨g, 0, none⟩), .int .i64 p, ev e] w fun x w' => x = .returned (.tuple #[]) ∧ QW w w' g F (T ++ [(p, e)]) := by
  have B0 := (Below.refl w.heap.size w).alloc (Nat.le_refl _) (.cells #[.int .i64 e.fr, .int .i64 e.boot, .int .i64 e.seq, .int .i64 e.ord, .int .i64 e.lev, .int .i64 e.stamp, .string e.data] 93)
  have K := Blk.newEnt w 93 e
  have hB := hB0.past B0
  have hO := hO0.past B0
  have HF := Lib.hid hf
  have HL := Lib.hid hl
  have hTT := Touch.of_below (S := F) B0
  have hnil : ∀ W, (binOp .eql 133 (.map none) (.map none)).run Tryz.prog W = .ok (.bool true) W := fun W => run_eql_map_nil W _ _ _ none Tryz.underlying133
  have hmm := @run_makeMap Tryz.prog
  have hgF : g ∈ F := by rw [hS]; exact List.mem_cons_self ..
  have hgk : g ≠ w.heap.size := fun h => by have := hB0.lt; omega
  have s1 : (w.alloc (.cells #[.int .i64 e.fr, .int .i64 e.boot, .int .i64 e.seq, .int .i64 e.ord, .int .i64 e.lev, .int .i64 e.stamp, .string e.data] 93)).heap.size = w.heap.size + 1 := by simp
  have Bm := (Below.refl (w.alloc (.cells #[.int .i64 e.fr, .int .i64 e.boot, .int .i64 e.seq, .int .i64 e.ord, .int .i64 e.lev, .int .i64 e.stamp, .string e.data] 93)).heap.size (w.alloc (.cells #[.int .i64 e.fr, .int .i64 e.boot, .int .i64 e.seq, .int .i64 e.ord, .int .i64 e.lev, .int .i64 e.stamp, .string e.data] 93))).alloc (Nat.le_refl _) (.map #[] 0)
  have hM1 : Mb ((w.alloc (.cells #[.int .i64 e.fr, .int .i64 e.boot, .int .i64 e.seq, .int .i64 e.ord, .int .i64 e.lev, .int .i64 e.stamp, .string e.data] 93)).alloc (.map #[] 0)) (w.alloc (.cells #[.int .i64 e.fr, .int .i64 e.boot, .int .i64 e.seq, .int .i64 e.ord, .int .i64 e.lev, .int .i64 e.stamp, .string e.data] 93)).heap.size T := by rw [hT0]; exact Mb.made _
  have hB1 := hB.past Bm
  have hO1 := hO.past Bm
  have K1 := K.past Bm
  have hs := Touch.of_grown (grown_set ((w.alloc (.cells #[.int .i64 e.fr, .int .i64 e.boot, .int .i64 e.seq, .int .i64 e.ord, .int .i64 e.lev, .int .i64 e.stamp, .string e.data] 93)).alloc (.map #[] 0)) g 1 (.map (some (w.alloc (.cells #[.int .i64 e.fr, .int .i64 e.boot, .int .i64 e.seq, .int .i64 e.ord, .int .i64 e.lev, .int .i64 e.stamp, .string e.data] 93)).heap.size)))
  have hB2 := hB1.set 1 (.map (some (w.alloc (.cells #[.int .i64 e.fr, .int .i64 e.boot, .int .i64 e.seq, .int .i64 e.ord, .int .i64 e.lev, .int .i64 e.stamp, .string e.data] 93)).heap.size))
  have hgm : (w.alloc (.cells #[.int .i64 e.fr, .int .i64 e.boot, .int .i64 e.seq, .int .i64 e.ord, .int .i64 e.lev, .int .i64 e.stamp, .string e.data] 93)).heap.size ≠ g := hM1.ne hB1
  have hM2 := hM1.touch hs (by simpa using hgm)
  have hne : bk A ≠ some g := hO1.ne hB1 (by decide)
  have hO2 := hO1.touch hs (by simpa using hne)
  have K2 := K1.touch hs (by simpa using hgk.symm)
  have hT2 := (hTT.trans (.of_below Bm)).trans (hs.wide (S' := F) (by simpa using hgF))
  have HSUB0 : ∀ k ∈ g :: (bl A ++ [(w.alloc (.cells #[.int .i64 e.fr, .int .i64 e.boot, .int .i64 e.seq, .int .i64 e.ord, .int .i64 e.lev, .int .i64 e.stamp, .string e.data] 93)).heap.size]), k ∈ F ∨ w.heap.size ≤ k := by
    intro k hk
    rcases List.mem_cons.1 hk with rfl | hk
    · exact .inl hgF
    · rcases List.mem_append.1 hk with hk | hk
      · exact .inl (by rw [hS]; exact List.mem_cons_of_mem _ hk)
      · rw [List.mem_singleton.1 hk, s1]; exact .inr (by omega)
  have d1 := hB.cell (i := 1) rfl
  have e1 := hB1.cell (i := 1) rfl
  have f1 := hB1.free 1
  simp only [List.set_cons_succ, List.set_cons_zero] at hB2
  clear hB0 hO0 hT0 hS hf hl hB hO hB1 hO1 K K1 hM1 Bm B0 hTT hgF hgk hgm hne hs
  rw [s1] at hB2 hO2 hM2 K2 hT2 HSUB0
  clear s1
  have HX := Lib.hid (And.intro hB2 (And.intro hO2 (And.intro hM2 (And.intro K2 (And.intro hT2 HSUB0)))))
  clear hB2 hO2 hM2 K2 hT2 HSUB0
  show Calls _ _ #[_, _, .agg #[.int .i64 e.fr, .int .i64 e.boot, .int .i64 e.seq, .int .i64 e.ord, .int .i64 e.lev, .int .i64 e.stamp, .string e.data]] _ _
  go_enter Tryz.func127, Tryz.ntmps127
  go_wp2_with fail
  generalize w.heap.size + 1 = b at *
  generalize (((w.alloc (.cells #[.int .i64 e.fr, .int .i64 e.boot, .int .i64 e.seq, .int .i64 e.ord, .int .i64 e.lev, .int .i64 e.stamp, .string e.data] 93)).alloc (.map #[] 0)).setCell ⟨g, 1, none⟩ (.map (some b))) = w2 at *
  have HB := Lib.hid (show Blk w2.drew g 135 _ from HX.out.1)
  have HO := Lib.hid (show Ow w2.drew 0 95 8 A T.length c (tls T) from HX.out.2.1)
  have HM := Lib.hid (show Mb w2.drew b T from HX.out.2.2.1)
  have HK := Lib.hid (show Blk w2.drew w.heap.size 93 (ecs e) from HX.out.2.2.2.1)
  have HT := Lib.hid (show Touch F w w2.drew from HX.out.2.2.2.2.1.drew)
  have HSUB := Lib.hid HX.out.2.2.2.2.2
  have GB := Lib.hid (show g ∉ [b] from fun hm => HM.out.ne HB.out (List.mem_singleton.1 hm).symm)
  have KB := Lib.hid (show w.heap.size ∉ [b] from fun hm => HM.out.ne HK.out (List.mem_singleton.1 hm).symm)
  have AB := Lib.hid (show bk A ≠ some b from HO.out.noMap HM.out)
  clear HX d1 e1 f1 hnil hmm
  refine Hs.begin [b] ?_
  refine Hs.take (v := .pointer (some ⟨g, 0, none⟩)) 0 15 rfl ?_ (fun _ _ => rfl)
  refine Hs.take (v := .pointer (some ⟨g, 0, none⟩)) 1 16 rfl ?_ (fun _ _ => rfl)
  refine Hs.take (v := .pointer (some ⟨g, 1, none⟩)) 2 17 rfl ?_ (fun w' hw' => by go_simp)
  refine Hs.take (v := .map (some b)) 3 18 rfl ?_ (fun w' hw' => run_loadMap ((HB.out.touch hw' GB.out).cell (i := 1) rfl) rfl)
  refine Hs.take (v := ev e) 4 19 rfl ?_ (fun w' hw' => run_loadE ((HK.out.touch hw' KB.out).range) rfl)
  refine Hs.take (v := .agg #[]) 6 21 rfl ?_ (fun w' hw' => by go_simp)
  refine Hs.call (f := 176) (args := #[ev e]) 5 20 rfl ?_ (run_callf Tryz.func176 (by kernel_rfl) (by kernel_rfl) (by simp only [List.map_toArray, List.map_cons, List.map_nil]; rfl))
  refine (broadcastOf_c _ e).mono ?_
  rintro x w3 ⟨rfl, b3⟩
  have T3 := Lib.hid (show Touch [b] w2.drew w3 from .of_below b3)
  have M3 := Lib.hid (show Mb w3 b T from HM.out.touch (S := []) (.of_below b3) (by simp))
  clear b3
  refine Hs.back T3.out ?_
  refine Hs.only 7 none rfl ?_
  refine wpList_putB rfl (.tmp 18) (.tmp 20) (.tmp 21) rfl M3.out (p, e) HF.out (by have := HL.out; unfold maxLen; omega) rfl rfl rfl ?_
  intro w4 m4 g4
  have T4 := Lib.hid (T3.out.trans (Touch.of_grown g4)).drew
  refine Hs.next (Touch.of_grown g4) ?_ rfl
  refine Hs.done ?_
  have HB4 := Lib.hid (show Blk w4.drew g 135 _ from HB.out.touch T4.out GB.out)
  have HO4 := Lib.hid (show Ow w4.drew 0 95 8 A T.length c (tls T) from HO.out.touch T4.out (fun s hs => by rw [List.mem_singleton.1 hs]; exact AB.out))
  have HM4 := Lib.hid (show Mb w4.drew b (T ++ [(p, e)]) from m4)
  have HK4 := Lib.hid (show Blk w4.drew w.heap.size 93 (ecs e) from HK.out.touch T4.out KB.out)
  have HT4 := Lib.hid (show Touch F w w4.drew from HT.out.trans4 T4.out (fun x hx => HSUB.out x (List.mem_cons_of_mem _ (List.mem_append_right _ hx))))
  have HG := Lib.hid (show bk A ≠ some g from HO4.out.ne HB4.out (by decide))
  have KG := Lib.hid (show w.heap.size ∉ g :: bl A from fun hm => by
    rcases List.mem_cons.1 hm with h | h
    · exact HK4.out.ne HB4.out (by decide) h
    · exact HO4.out.ne HK4.out (by decide) (mem_bl.1 h))
  clear m4 g4 T3 M3 T4 HB HO HM HK HT
  go_wp2_with fail
  refine Hs.begin (g :: bl A) ?_
  refine Hs.take (v := .pointer (some ⟨g, 0, none⟩)) 0 22 rfl ?_ (fun _ _ => rfl)
  refine Hs.take (v := .pointer (some ⟨g, 0, none⟩)) 1 23 rfl ?_ (fun _ _ => rfl)
  refine Hs.take (v := .pointer (some ⟨g, 0, none⟩)) 2 24 rfl ?_ (fun _ _ => rfl)
  refine Hs.take (v := .pointer (some ⟨g, 0, none⟩)) 3 25 rfl ?_ (fun w' hw' => by go_simp)
  refine Hs.take (v := .int .i64 p) 5 27 rfl ?_ (fun _ _ => rfl)
  refine Hs.take (v := ev e) 6 28 rfl ?_ (fun w' hw' => run_loadE ((HK4.out.touch hw' KG.out).range) rfl)
  refine Hs.take (v := tldv (p, e)) 7 29 rfl ?_ (fun w' hw' => run_buildT rfl rfl)
  have BA := Lib.hid (show Below w4.drew.heap.size w4.drew (w4.drew.alloc (.cells (tcs (p, e)).toArray 95)) from (Below.refl _ _).alloc (Nat.le_refl _) _)
  have HBA := Lib.hid (HB4.out.past BA.out)
  have HOA := Lib.hid (HO4.out.past BA.out)
  have HMA := Lib.hid (HM4.out.touch (S := []) (.of_below BA.out) (by simp))
  have HTA := Lib.hid (HT4.out.trans (.of_below BA.out))
  have HN := Lib.hid (Rd.new w4.drew (tcs (p, e)).toArray 95 8 1 rfl (by unfold maxLen; omega))
  refine Hs.two 4 8 ?_ ?_
  · refine Hs.pick 4 (some 26) rfl ?_
    refine wpList_runTo' rfl (.slice A T.length c) _ (run_loadS (HB4.out.cell (i := 0) rfl) rfl) ?_
    refine Hs.next (Touch.refl _ _) ?_
    refine Hs.only 8 (some 30) rfl ?_
    refine wpList_buildT rfl (.tmp 29) rfl (p, e) rfl ?_
    refine Hs.next (.of_below BA.out) ?_ (by simp only [Act.put, List.setIfInBounds_toArray, List.set_cons_succ, List.set_cons_zero]; rfl)
    refine Hs.only 9 (some 31) rfl ?_
    refine wpList_app2 rfl (.tmp 26) (.tmp 30) 28 rfl 0 95 _ 8 72 Tryz.underlying28 told_info rfl (by omega) A T.length c (tls T) rfl HOA.out _ _ 1 1 (tcs (p, e)) rfl HN.out (tcs_one (p, e)) (by have := HL.out; unfold maxLen; omega) (by have := HL.out; omega) (Nat.zero_le _) ?_
    intro A2 c2 w5 O5 g5 h5
    refine Hs.next ((Touch.of_bk g5).wide (fun k hk => List.mem_cons_of_mem _ hk)) ?_ (by simp only [Act.put, List.setIfInBounds_toArray, List.set_cons_succ, List.set_cons_zero]; rfl)
    have K5 : Blk w5 g 135 [.slice A T.length c, .map (some b)] := HBA.out.touch (Touch.of_bk g5) (fun hm => HG.out (mem_bl.1 hm))
    have W5 := Lib.hid (Qu.app HBA.out HOA.out HMA.out HL.out g5 h5 O5)
    clear O5 h5
    refine Hs.take (v := .pointer (some ⟨g, 0, none⟩)) 10 32 rfl ?_ (fun _ _ => rfl)
    refine Hs.take (v := .pointer (some ⟨g, 0, none⟩)) 11 33 rfl ?_ (fun w' hw' => by go_simp)
    refine Hs.only 12 none rfl ?_
    refine wpList_skipTo rfl rfl _ (run_storeS (K5.cell (i := 0) rfl) (K5.free 0) rfl rfl) ?_
    refine Hs.next ((Touch.of_grown (grown_set w5 g 0 _)).wide (by simp)) ?_ rfl
    refine Hs.done ?_
    clear K5 g5
    (try simp only [Exit.inBlock, Exit.then])
    go_wp2_with fail
    go_end0
    exact ⟨rfl, QW.trans HSUB.out HTA.out W5.out⟩
  · refine Hs.pick 8 (some 30) rfl ?_
    refine wpList_buildT rfl (.tmp 29) rfl (p, e) rfl ?_
    refine Hs.next (.of_below BA.out) ?_ (by simp only [Act.put, List.setIfInBounds_toArray, List.set_cons_succ, List.set_cons_zero]; rfl)
    refine Hs.only 4 (some 26) rfl ?_
    refine wpList_runTo' rfl (.slice A T.length c) _ (run_loadS (HBA.out.cell (i := 0) rfl) rfl) ?_
    refine Hs.next (Touch.refl _ _) ?_
    refine Hs.only 9 (some 31) rfl ?_
    refine wpList_app2 rfl (.tmp 26) (.tmp 30) 28 rfl 0 95 _ 8 72 Tryz.underlying28 told_info rfl (by omega) A T.length c (tls T) rfl HOA.out _ _ 1 1 (tcs (p, e)) rfl HN.out (tcs_one (p, e)) (by have := HL.out; unfold maxLen; omega) (by have := HL.out; omega) (Nat.zero_le _) ?_
    intro A2 c2 w5 O5 g5 h5
    refine Hs.next ((Touch.of_bk g5).wide (fun k hk => List.mem_cons_of_mem _ hk)) ?_ (by simp only [Act.put, List.setIfInBounds_toArray, List.set_cons_succ, List.set_cons_zero]; rfl)
    have K5 : Blk w5 g 135 [.slice A T.length c, .map (some b)] := HBA.out.touch (Touch.of_bk g5) (fun hm => HG.out (mem_bl.1 hm))
    have W5 := Lib.hid (Qu.app HBA.out HOA.out HMA.out HL.out g5 h5 O5)
    clear O5 h5
    refine Hs.take (v := .pointer (some ⟨g, 0, none⟩)) 10 32 rfl ?_ (fun _ _ => rfl)
    refine Hs.take (v := .pointer (some ⟨g, 0, none⟩)) 11 33 rfl ?_ (fun w' hw' => by go_simp)
    refine Hs.only 12 none rfl ?_
    refine wpList_skipTo rfl rfl _ (run_storeS (K5.cell (i := 0) rfl) (K5.free 0) rfl rfl) ?_
    refine Hs.next ((Touch.of_grown (grown_set w5 g 0 _)).wide (by simp)) ?_ rfl
    refine Hs.done ?_
    clear K5 g5
    (try simp only [Exit.inBlock, Exit.then])
    go_wp2_with fail
    go_end0
    exact ⟨rfl, QW.trans HSUB.out HTA.out W5.out⟩
/-- Told: it stands behind what was told. -/
theorem tell_c (w : World) (g : Nat) (F : List Nat) (T : List Tl) (h : Qu w g F T) (p : Int) (e : Ent) (hf : PEnt.Fit e) (hl : T.length < 1000000) :
    Calls Tryz.prog 127 #[.pointer (some ⟨g, 0, none⟩), .int .i64 p, ev e] w fun x w' => x = .returned (.tuple #[]) ∧ QW w w' g F (T ++ [(p, e)]) := by
  obtain ⟨A, c, q, hB, hO, hM, hF⟩ := h.ex
  rcases hM with ⟨hq, hT⟩ | ⟨b, hq, hM⟩
  · cases hq
    exact tell_none w g F T A c hB hO hT (by rw [hF]; simp [ml]) p e hf hl
  · cases hq
    exact tell_some w g F T A c b hB hO hM hF p e hf hl
end Go.Proofs.YtacipjdaiglnjaaGreatDoor

/- Contracts of wasHeld, levelLets, orderLets, untold.add, least. -/
namespace Go.Proofs.YtacipjdaiglnjaaGreatDoor
open Go.RowKit PReady

def uv (u : Fl) : Value := .agg #[.bool u.so, .bool u.tot, .bool u.tim]
def ucs (u : Fl) : List Value := [.bool u.so, .bool u.tot, .bool u.tim]
theorem wasHeld_c (w : World) (s now : Int) (hs : -9223372036854775808 ≤ s ∧ s ≤ 9223372036854775807) :
    Calls Tryz.prog 200 #[.int .i64 s, .int .i64 now] w fun x w' => x = .returned (.bool (held s now)) ∧ w = w' := by
  obtain ⟨hs1, hs2⟩ := hs
  by_cases h1 : s ≤ 9223372036854775804
  · by_cases h2 : s + 3 ≤ now
    · have HR := Lib.hid (show held s now = true by simp [held, h1, h2])
      go_enter Tryz.func200, Tryz.ntmps200
      go_wp2_with fail
      go_ret
      exact ⟨by rw [HR.out]; rfl, rfl⟩
    · have HR := Lib.hid (show held s now = false by simp [held, h2])
      go_enter Tryz.func200, Tryz.ntmps200
      go_wp2_with fail
      go_ret
      exact ⟨by rw [HR.out]; rfl, rfl⟩
  · have HR := Lib.hid (show held s now = false by simp [held, h1])
    go_enter Tryz.func200, Tryz.ntmps200
    go_wp2_with fail
    go_ret
    exact ⟨by rw [HR.out]; rfl, rfl⟩

set_option maxHeartbeats 2000000 in
set_option maxRecDepth 100000 in
theorem levelLets_c (w : World) (l at' commit : Int) (u : Fl) :
    Calls Tryz.prog 173 #[.int .i64 l, .int .i64 at', .int .i64 commit, uv u] w fun x w' => x = .returned (.bool (level u at' commit l)) ∧ Below w.heap.size w w' := by
  have B0 := Lib.hid ((Below.refl w.heap.size w).alloc (Nat.le_refl _) (.cells #[.bool u.so, .bool u.tot, .bool u.tim] 231))
  have K := Blk.new w #[.bool u.so, .bool u.tot, .bool u.tim] 231
  have d0 := K.cell (i := 0) rfl
  clear K
  by_cases h0 : l = 0
  · have HR := Lib.hid (show level u at' commit l = true by simp [level, h0])
    subst h0
    show Calls _ _ #[_, _, _, .agg #[.bool u.so, .bool u.tot, .bool u.tim]] _ _
    go_enter Tryz.func173, Tryz.ntmps173
    go_wp2_with fail
    go_ret
    exact ⟨by rw [HR.out]; rfl, B0.out⟩
  have e0 : (l == 0) = false := by simpa using h0
  by_cases h1 : l = 1
  · subst h1
    by_cases hc : at' ≤ commit
    · have HR := Lib.hid (show level u at' commit 1 = true by simp [level, hc])
      show Calls _ _ #[_, _, _, .agg #[.bool u.so, .bool u.tot, .bool u.tim]] _ _
      go_enter Tryz.func173, Tryz.ntmps173
      go_wp2_with fail
      go_ret
      exact ⟨by rw [HR.out]; simp, B0.out⟩
    · have HR := Lib.hid (show level u at' commit 1 = false by simp [level, hc])
      have hc' : ¬ commit ≥ at' := by omega
      show Calls _ _ #[_, _, _, .agg #[.bool u.so, .bool u.tot, .bool u.tim]] _ _
      go_enter Tryz.func173, Tryz.ntmps173
      go_wp2_with fail
      go_ret
      exact ⟨by rw [HR.out]; simp, B0.out⟩
  have e1 : (l == 1) = false := by simpa using h1
  by_cases h2 : l = 2
  · subst h2
    by_cases hc : at' ≤ commit
    · have hc' : commit ≥ at' := hc
      cases hu : u.so
      · have HR := Lib.hid (show level u at' commit 2 = true by simp [level, hc, hu])
        rw [hu] at d0
        show Calls _ _ #[_, _, _, .agg #[.bool u.so, .bool u.tot, .bool u.tim]] _ _
        rw [hu]
        go_enter Tryz.func173, Tryz.ntmps173
        go_wp2_with fail
        go_ret
        exact ⟨by rw [HR.out]; rfl, by have := B0.out; rw [hu] at this; exact this⟩
      · have HR := Lib.hid (show level u at' commit 2 = false by simp [level, hu])
        rw [hu] at d0
        show Calls _ _ #[_, _, _, .agg #[.bool u.so, .bool u.tot, .bool u.tim]] _ _
        rw [hu]
        go_enter Tryz.func173, Tryz.ntmps173
        go_wp2_with fail
        go_ret
        exact ⟨by rw [HR.out]; rfl, by have := B0.out; rw [hu] at this; exact this⟩
    · have HR := Lib.hid (show level u at' commit 2 = false by simp [level, hc])
      have hc' : ¬ commit ≥ at' := by omega
      show Calls _ _ #[_, _, _, .agg #[.bool u.so, .bool u.tot, .bool u.tim]] _ _
      go_enter Tryz.func173, Tryz.ntmps173
      go_wp2_with fail
      go_ret
      exact ⟨by rw [HR.out]; rfl, B0.out⟩
  have e2 : (l == 2) = false := by simpa using h2
  have HR := Lib.hid (show level u at' commit l = false by simp [level, h0, h1, h2])
  show Calls _ _ #[_, _, _, .agg #[.bool u.so, .bool u.tot, .bool u.tim]] _ _
  go_enter Tryz.func173, Tryz.ntmps173
  go_wp2_with fail
  go_ret
  exact ⟨by rw [HR.out]; rfl, B0.out⟩

set_option maxHeartbeats 2000000 in
set_option maxRecDepth 100000 in
theorem orderLets_c (w : World) (e : Ent) (now : Int) (u : Fl) (hf : PEnt.Fit e) :
    Calls Tryz.prog 174 #[ev e, .int .i64 now, uv u] w fun x w' => x = .returned (.bool (order u now e.ord e.stamp)) ∧ Below w.heap.size w w' := by
  obtain ⟨fr, boot, seq, ord, lev, stamp, data⟩ := e
  obtain ⟨so, tot, tim⟩ := u
  have HS := Lib.hid hf.f5
  have B0 := (Below.refl w.heap.size w).alloc (Nat.le_refl _) (.cells #[.int .i64 fr, .int .i64 boot, .int .i64 seq, .int .i64 ord, .int .i64 lev, .int .i64 stamp, .string data] 93)
  have K0 := Blk.newEnt w 93 ⟨fr, boot, seq, ord, lev, stamp, data⟩
  have K := Blk.new (w.alloc (.cells #[.int .i64 fr, .int .i64 boot, .int .i64 seq, .int .i64 ord, .int .i64 lev, .int .i64 stamp, .string data] 93)) #[.bool so, .bool tot, .bool tim] 231
  have K1 := K0.alloc (.cells #[.bool so, .bool tot, .bool tim] 231)
  have B1 := Lib.hid (B0.alloc B0.size (.cells #[.bool so, .bool tot, .bool tim] 231))
  rw [show (w.alloc (.cells #[.int .i64 fr, .int .i64 boot, .int .i64 seq, .int .i64 ord, .int .i64 lev, .int .i64 stamp, .string data] 93)).heap.size = w.heap.size + 1 by simp] at K
  clear B0 hf K0
  show Calls _ _ #[.agg #[.int .i64 fr, .int .i64 boot, .int .i64 seq, .int .i64 ord, .int .i64 lev, .int .i64 stamp, .string data], _, .agg #[.bool so, .bool tot, .bool tim]] _ _
  by_cases h0 : ord = 0
  · have HR := Lib.hid (show order ⟨so, tot, tim⟩ now ord stamp = true by simp [order, h0])
    subst h0
    clear K K1
    go_enter Tryz.func174, Tryz.ntmps174
    go_wp2_with fail
    go_ret
    exact ⟨by rw [HR.out]; rfl, B1.out⟩
  have e0 : (ord == 0) = false := by simpa using h0
  by_cases h1 : ord = 1
  · have HR := Lib.hid (show order ⟨so, tot, tim⟩ now ord stamp = !tot by simp [order, h1])
    subst h1
    clear K K1
    go_enter Tryz.func174, Tryz.ntmps174
    go_wp2_with fail
    go_ret
    exact ⟨by rw [HR.out]; rfl, B1.out⟩
  have e1 : (ord == 1) = false := by simpa using h1
  by_cases h2 : ord = 2
  · have HR := Lib.hid (show order ⟨so, tot, tim⟩ now ord stamp = (held stamp now && !tim) by simp [order, h2])
    subst h2
    go_enter Tryz.func174, Tryz.ntmps174
    go_wp2_with fail
    generalize ((w.alloc (.cells #[.int .i64 fr, .int .i64 boot, .int .i64 seq, .int .i64 2, .int .i64 lev, .int .i64 stamp, .string data] 93)).alloc (.cells #[.bool so, .bool tot, .bool tim] 231)) = w2 at *
    refine (wasHeld_c w2 stamp now HS.out).mono ?_
    cases hh : held stamp now
    · rw [hh] at HR
      rintro x w3 ⟨rfl, rfl⟩
      clear hh K K1
      go_wp2_with fail
      go_ret
      exact ⟨by rw [HR.out]; rfl, B1.out⟩
    · rw [hh] at HR
      have d2 := K.cell (i := 2) rfl
      rintro x w3 ⟨rfl, rfl⟩
      clear hh K K1
      go_wp2_with fail
      go_ret
      exact ⟨by rw [HR.out]; simp, B1.out⟩
  have e2 : (ord == 2) = false := by simpa using h2
  have HR := Lib.hid (show order ⟨so, tot, tim⟩ now ord stamp = false by simp [order, h0, h1, h2])
  clear K K1
  go_enter Tryz.func174, Tryz.ntmps174
  go_wp2_with fail
  go_ret
  exact ⟨by rw [HR.out]; rfl, B1.out⟩

def W3 (w : World) (g : Nat) (a b : Bool) : World := ((w.setCell ⟨g, 0, none⟩ (.bool true)).setCell ⟨g, 1, none⟩ (.bool a)).setCell ⟨g, 2, none⟩ (.bool b)
theorem W3.blk {w : World} {g : Nat} {u : Fl} {t : TypeId} (h : Blk w g t (ucs u)) (a b : Bool) : Blk (W3 w g a b) g t [.bool true, .bool a, .bool b] := by
  have := ((h.set 0 (.bool true)).set 1 (.bool a)).set 2 (.bool b)
  unfold W3
  simpa [ucs] using this
theorem W3.grown (w : World) (g : Nat) (a b : Bool) : w.grownBy (W3 w g a b) (some g) := ((grown_set _ _ _ _).trans (grown_set _ _ _ _)).trans (grown_set _ _ _ _)
set_option maxHeartbeats 2000000 in
set_option maxRecDepth 100000 in
theorem rdAdd_c (w : World) (g : Nat) (u : Fl) (h : Blk w g 231 (ucs u)) (o : Int) :
    Calls Tryz.prog 175 #[.pointer (some ⟨g, 0, none⟩), .int .i64 o] w fun x w' => x = .returned (.tuple #[]) ∧ w' = W3 w g (u.add o).tot (u.add o).tim := by
  obtain ⟨so, tot, tim⟩ := u
  have d0 := h.cell (i := 0) rfl
  have d1 := h.cell (i := 1) rfl
  have d2 := h.cell (i := 2) rfl
  have f0 := h.free 0
  have f1 := h.free 1
  have f2 := h.free 2
  clear h
  have fin : ∀ a b : Bool, (tot || decide (o = 1)) = a → (tim || decide (o = 2)) = b → W3 w g a b = W3 w g (Fl.add ⟨so, tot, tim⟩ o).tot (Fl.add ⟨so, tot, tim⟩ o).tim := by
    rintro a b rfl rfl; rfl
  have FIN := Lib.hid fin
  clear fin
  cases tot <;> cases tim
  all_goals
    by_cases h1 : o = 1
    · subst h1
      go_enter Tryz.func175, Tryz.ntmps175
      go_wp2_with fail
      go_end0
      exact ⟨rfl, FIN.out _ _ rfl rfl⟩
    · have e1 : (o == 1) = false := by simpa using h1
      by_cases h2 : o = 2
      · subst h2
        go_enter Tryz.func175, Tryz.ntmps175
        go_wp2_with fail
        go_end0
        exact ⟨rfl, FIN.out _ _ rfl rfl⟩
      · have e2 : (o == 2) = false := by simpa using h2
        have FX := Lib.hid (FIN.out _ _ rfl rfl)
        simp only [h1, h2, decide_false, Bool.or_false] at FX
        go_enter Tryz.func175, Tryz.ntmps175
        go_wp2_with fail
        go_end0
        exact ⟨rfl, FX.out⟩
end Go.Proofs.YtacipjdaiglnjaaGreatDoor

/- Contract of the queue's least. -/
namespace Go.Proofs.YtacipjdaiglnjaaGreatDoor
open Go.RowKit PReady

theorem lets_def (u : Fl) (a c n : Int) (e : Ent) : lets u a c n e = (level u a c e.lev && order u n e.ord e.stamp) := rfl
/-- The loop's state. -/
structure LS (w wr : World) (n i : Nat) (u : Fl) (g : Nat) (F : List Nat) (T : List Tl) (commit now : Int) (l : List Ent) : Prop where
  eq : least commit now T 0 Fl.none l = least commit now T i u (l.drop i)
  blk : Blk wr w.heap.size 231 (ucs u)
  bel : Below w.heap.size w wr
  qu : Qu wr g F T

set_option maxHeartbeats 8000000 in
set_option maxRecDepth 100000 in
theorem least_c (w : World) (g : Nat) (F : List Nat) (T : List Tl) (h : Qu w g F T) (A : Option Addr) (c n : Nat) (l : List Ent) (R : Rd w w.heap.size A c 7 n (els l)) (hfit : ∀ e ∈ l, PEnt.Fit e) (commit now : Int) :
    Calls Tryz.prog 126 #[.pointer (some ⟨g, 0, none⟩), .slice A n c, .int .i64 commit, .int .i64 now] w fun x w' => x = .returned (.int .i64 (spot (least commit now T 0 Fl.none l))) ∧ Below w.heap.size w w' := by
  have hcap := R.cap
  have hle := R.le
  have hn : n ≤ 9223372036854775807 := by unfold maxLen at hcap; omega
  have HL := Lib.hid R.elen
  have R0 := Lib.hid R
  have HF := Lib.hid hfit
  have B0 := (Below.refl w.heap.size w).alloc (Nat.le_refl _) (.cells #[.bool false, .bool false, .bool false] 231)
  have K0 := Blk.new w #[.bool false, .bool false, .bool false] 231
  have ST := Lib.hid (show LS w (w.alloc (.cells #[.bool false, .bool false, .bool false] 231)) n 0 Fl.none g F T commit now l from ⟨rfl, K0, B0, h.alloc _⟩)
  have HNF := Lib.hid (show w.heap.size ∉ F from fun hm => Nat.lt_irrefl _ (h.hi _ hm))
  clear R hcap hle hfit h B0 K0
  go_enter Tryz.func126, Tryz.ntmps126
  go_wp2_with fail
  go_loopw [15] (fun s15 wr => ∃ (i : Nat) (u : Fl), s15 = .int .i64 i ∧ i ≤ n ∧ Hid (LS w wr n i u g F T commit now l)) (fun s15 _ => n - (intOf s15).toNat)
  case atStart => exact ⟨0, Fl.none, rfl, by omega, ST⟩
  case round =>
    obtain ⟨i, u, rfl, hi, HS⟩ := hrel
    clear ST
    by_cases hlt : i < n
    · obtain ⟨b, o, e, rfl, hb, he, hmem, d0, d1, d2, d3, d4, d5, d6⟩ := (R0.out.below HS.out.bel).ent hlt
      have HE := Lib.hid he
      have HFe := Lib.hid (HF.out e hmem)
      have HLS := Lib.hid (least_step (commit := commit) (now := now) (T := T) (u := u) he)
      clear hb he hmem
      have B1 := Lib.hid (HS.out.bel.alloc HS.out.bel.size (.cells #[.int .i64 e.fr, .int .i64 e.boot, .int .i64 e.seq, .int .i64 e.ord, .int .i64 e.lev, .int .i64 e.stamp, .string e.data] 93))
      have K1 := Lib.hid (HS.out.blk.alloc (.cells #[.int .i64 e.fr, .int .i64 e.boot, .int .i64 e.seq, .int .i64 e.ord, .int .i64 e.lev, .int .i64 e.stamp, .string e.data] 93))
      have Q1 := Lib.hid (HS.out.qu.alloc (.cells #[.int .i64 e.fr, .int .i64 e.boot, .int .i64 e.seq, .int .i64 e.ord, .int .i64 e.lev, .int .i64 e.stamp, .string e.data] 93))
      have KE := Lib.hid (Blk.newEnt wr 93 e)
      have EQ := Lib.hid HS.out.eq
      clear HS
      go_wp2_with fail
      clear d0 d1 d2 d3 d4 d5 d6
      generalize (wr.alloc (.cells #[.int .i64 e.fr, .int .i64 e.boot, .int .i64 e.seq, .int .i64 e.ord, .int .i64 e.lev, .int .i64 e.stamp, .string e.data] 93)) = w1 at *
      refine (rdHas_c w1 g F T Q1.out e HFe.out).mono ?_
      cases hh : has T e
      · have HX := Lib.hid (show least commit now T 0 Fl.none l = if lets u ((i : Int) + 1) commit now e then some ((i : Int) + 1, e) else least commit now T (i + 1) (u.add e.ord) (l.drop (i + 1)) by rw [EQ.out, HLS.out, hh]; simp)
        clear hh EQ HLS
        rintro x w2 ⟨rfl, b2⟩
        have B2 := Lib.hid (B1.out.trans (b2.mono B1.out.size))
        have K2 := Lib.hid (K1.out.past b2)
        have Q2 := Lib.hid (Q1.out.past b2)
        have KE2 := Lib.hid (KE.out.past b2)
        clear b2 B1 K1 Q1 KE
        obtain ⟨d0, d1, d2, d3, d4, d5, d6⟩ := KE2.out.ent
        have c0 := K2.out.cell (i := 0) rfl
        have c1 := K2.out.cell (i := 1) rfl
        have c2 := K2.out.cell (i := 2) rfl
        go_wp2_with fail
        clear c0 c1 c2 d0 d1 d2 d3 d4 d5 d6
        refine (show Calls Tryz.prog _ #[_, .int .i64 ((i : Int) + 1), _, .agg #[.bool u.so, .bool u.tot, .bool u.tim]] w2 _ from levelLets_c w2 e.lev ((i : Int) + 1) commit u).mono ?_
        cases hv : level u ((i : Int) + 1) commit e.lev
        · have HY := Lib.hid (show least commit now T 0 Fl.none l = least commit now T (i + 1) (u.add e.ord) (l.drop (i + 1)) from HX.out.trans (if_neg (by rw [lets_def, hv]; simp)))
          clear hv HX
          rintro x w3 ⟨rfl, b3⟩
          have B3 := Lib.hid (B2.out.trans (b3.mono B2.out.size))
          have K3 := Lib.hid (K2.out.past b3)
          have Q3 := Lib.hid (Q2.out.past b3)
          have KE3 := Lib.hid (KE2.out.past b3)
          clear b3 B2 K2 Q2 KE2
          obtain ⟨d0, d1, d2, d3, d4, d5, d6⟩ := KE3.out.ent
          go_wp2_with fail
          clear d0 d1 d2 d3 d4 d5 d6
          refine (rdAdd_c w3 w.heap.size u K3.out e.ord).mono ?_
          rintro x w9 ⟨rfl, rfl⟩
          have LT := (show w.heap.size < w3.heap.size from K3.out.lt)
          have G9 := W3.grown w3 w.heap.size (u.add e.ord).tot (u.add e.ord).tim
          have NE := HNF.out
          have NX := Lib.hid (show LS w (W3 w3 w.heap.size (u.add e.ord).tot (u.add e.ord).tim) n (i + 1) (u.add e.ord) g F T commit now l from
            ⟨HY.out, W3.blk K3.out _ _, B3.out.grown G9 B3.out.size (fun k hk => by cases hk; exact Nat.le_refl _), Q3.out.touch (Touch.of_grown G9) (fun s hs => by rw [List.mem_singleton.1 hs]; exact NE)⟩)
          clear LT G9 NE B3 K3 Q3 KE3 HY
          generalize W3 w3 w.heap.size (u.add e.ord).tot (u.add e.ord).tim = w9 at *
          go_wp2_with fail
          go_roundw
          case rel => exact ⟨i + 1, u.add e.ord, by go_num, by omega, NX⟩
          case measure => simp [intOf]; omega
        rintro x w3 ⟨rfl, b3⟩
        have B3 := Lib.hid (B2.out.trans (b3.mono B2.out.size))
        have K3 := Lib.hid (K2.out.past b3)
        have Q3 := Lib.hid (Q2.out.past b3)
        have KE3 := Lib.hid (KE2.out.past b3)
        clear b3 B2 K2 Q2 KE2
        obtain ⟨d0, d1, d2, d3, d4, d5, d6⟩ := KE3.out.ent
        have c0 := K3.out.cell (i := 0) rfl
        have c1 := K3.out.cell (i := 1) rfl
        have c2 := K3.out.cell (i := 2) rfl
        go_wp2_with fail
        clear c0 c1 c2 d0 d1 d2 d3 d4 d5 d6
        refine (show Calls Tryz.prog _ #[.agg #[.int .i64 e.fr, .int .i64 e.boot, .int .i64 e.seq, .int .i64 e.ord, .int .i64 e.lev, .int .i64 e.stamp, .string e.data], _, .agg #[.bool u.so, .bool u.tot, .bool u.tim]] w3 _ from orderLets_c w3 e now u HFe.out).mono ?_
        cases ho : order u now e.ord e.stamp
        · have HY := Lib.hid (show least commit now T 0 Fl.none l = least commit now T (i + 1) (u.add e.ord) (l.drop (i + 1)) from HX.out.trans (if_neg (by rw [lets_def, ho]; simp)))
          clear ho hv HX
          rintro x w4 ⟨rfl, b4⟩
          have B4 := Lib.hid (B3.out.trans (b4.mono B3.out.size))
          have K4 := Lib.hid (K3.out.past b4)
          have Q4 := Lib.hid (Q3.out.past b4)
          have KE4 := Lib.hid (KE3.out.past b4)
          clear b4 B3 K3 Q3 KE3
          obtain ⟨d0, d1, d2, d3, d4, d5, d6⟩ := KE4.out.ent
          go_wp2_with fail
          clear d0 d1 d2 d3 d4 d5 d6
          refine (rdAdd_c w4 w.heap.size u K4.out e.ord).mono ?_
          rintro x w9 ⟨rfl, rfl⟩
          have LT := (show w.heap.size < w4.heap.size from K4.out.lt)
          have G9 := W3.grown w4 w.heap.size (u.add e.ord).tot (u.add e.ord).tim
          have NE := HNF.out
          have NX := Lib.hid (show LS w (W3 w4 w.heap.size (u.add e.ord).tot (u.add e.ord).tim) n (i + 1) (u.add e.ord) g F T commit now l from
            ⟨HY.out, W3.blk K4.out _ _, B4.out.grown G9 B4.out.size (fun k hk => by cases hk; exact Nat.le_refl _), Q4.out.touch (Touch.of_grown G9) (fun s hs => by rw [List.mem_singleton.1 hs]; exact NE)⟩)
          clear LT G9 NE B4 K4 Q4 KE4 HY
          generalize W3 w4 w.heap.size (u.add e.ord).tot (u.add e.ord).tim = w9 at *
          go_wp2_with fail
          go_roundw
          case rel => exact ⟨i + 1, u.add e.ord, by go_num, by omega, NX⟩
          case measure => simp [intOf]; omega
        · have HY := Lib.hid (show least commit now T 0 Fl.none l = some ((i : Int) + 1, e) from HX.out.trans (if_pos (by rw [lets_def, hv, ho]; rfl)))
          clear ho hv HX
          rintro x w4 ⟨rfl, b4⟩
          go_wp2_with fail
          go_ret
          exact ⟨by rw [HY.out]; rfl, B3.out.trans (b4.mono B3.out.size)⟩
      · have HX := Lib.hid (show least commit now T 0 Fl.none l = least commit now T (i + 1) u (l.drop (i + 1)) by rw [EQ.out, HLS.out, hh]; simp)
        clear hh EQ HLS
        rintro x w2 ⟨rfl, b2⟩
        have NX := Lib.hid (show LS w w2 n (i + 1) u g F T commit now l from ⟨HX.out, K1.out.past b2, B1.out.trans (b2.mono B1.out.size), Q1.out.past b2⟩)
        clear b2 B1 K1 Q1 KE HX
        go_wp2_with fail
        go_roundw
        case rel => exact ⟨i + 1, u, by go_num, by omega, NX⟩
        case measure => simp [intOf]; omega
    · obtain rfl : i = n := by omega
      have HY := Lib.hid (show least commit now T 0 Fl.none l = none by rw [HS.out.eq]; exact least_done (by rw [HL.out]; exact Nat.le_refl _))
      go_wp2_with fail
      go_ret
      exact ⟨by rw [HY.out]; rfl, HS.out.bel⟩
end Go.Proofs.YtacipjdaiglnjaaGreatDoor

/- Contracts of the library's Clone at what was told, of the queue's New, Told; of all at no queue. -/
namespace Go.Proofs.YtacipjdaiglnjaaGreatDoor
open Go.RowKit PReady

theorem cloneT_c (w : World) (B : Nat) (A : Option Addr) (c n : Nat) (l : List Tl) (h : Rd w B A c 8 n (tls l)) (hn : n ≤ 1000000) :
    Calls Tryz.prog 34 #[.slice A n c] w fun e w' => ∃ A' c', e = .returned (.slice A' n c') ∧ w'.ownsRow w.heap.size 95 8 (.slice A' n c') n (tls l) ∧ Below w.heap.size w w' := by
  have hl := h.tlen
  cases A with
  | none =>
    have hc := h.2.2.2.1 rfl
    have hle := h.le
    have h0 : n = 0 := by omega
    subst h0
    subst hc
    have e0 : l = [] := List.eq_nil_of_length_eq_zero hl
    subst e0
    clear h hl hle
    have hnil : ∀ W, (binOp .eql 28 (.slice none 0 0) (.slice none 0 0)).run Tryz.prog W = .ok (.bool true) W := fun W => by rw [run_eql_nil_slice W _ _ none 0 0 0 0 Tryz.underlying28]; rfl
    go_enter Tryz.func34, Tryz.ntmps34
    go_wp2_with fail
    go_ret
    exact ⟨none, 0, rfl, World.ownsRow_nil _ _ _ _, Below.refl _ _⟩
  | some ad =>
    have hr := h.alloc (.cells #[] 95)
    have hown0 := World.ownsRow_lit (base := w.heap.size) (e := 95) (size := 8) w #[] 0 (Nat.le_refl _) (by simp [maxLen]) rfl
    have hb0 : Below w.heap.size w (w.alloc (.cells #[] 95)) := (Below.refl _ _).alloc (Nat.le_refl _) _
    clear h hl
    have hnil : ∀ W, (binOp .eql 28 (.slice (some ad) n c) (.slice none 0 0)).run Tryz.prog W = .ok (.bool false) W := fun W => Lib.run_eql_slice_nil W _ _ (some ad) n c 0 0 Tryz.underlying28
    go_enter Tryz.func34, Tryz.ntmps34
    go_wp2_with (at_builtin; go_must (refine wpList_app rfl (.tmp 5) (.tmp 6) _ rfl w.heap.size 95 _ 8 72 Tryz.underlying28 told_info rfl (by omega) _ 0 [] rfl hown0 B (some ad) c n (tls l) rfl hr (tls_one l) ?c1 ?c2 hb0.size ?_))
    case c1 => unfold maxLen; omega
    case c2 => omega
    intro A' c' w1 hown1 hgrow1 hbel1
    have hown1' : w1.ownsRow w.heap.size 95 8 (.slice A' n c') n (tls l) := by simpa using hown1
    clear hown1
    have e1 : (0 + n) = n := by omega
    try rw [e1]
    go_wp2_with fail
    go_ret
    exact ⟨A', c', rfl, hown1', hb0.trans hbel1⟩

theorem Told_c (w : World) (g : Nat) (F : List Nat) (T : List Tl) (h : Qu w g F T) :
    Calls Tryz.prog 39 #[.pointer (some ⟨g, 0, none⟩)] w fun x w' => ∃ A' c', x = .returned (.slice A' T.length c') ∧ w'.ownsRow w.heap.size 95 8 (.slice A' T.length c') T.length (tls T) ∧ Below w.heap.size w w' := by
  obtain ⟨A, c, q, d0, d1, R, -, -⟩ := h.open
  have HL := Lib.hid h.le
  have R0 := Lib.hid R
  clear h R d1
  go_enter Tryz.func39, Tryz.ntmps39
  go_wp2_with fail
  refine (cloneT_c w _ A c T.length T R0.out HL.out).mono ?_
  rintro x w1 ⟨A', c', rfl, ho, hb⟩
  go_wp2_with fail
  go_ret
  exact ⟨A', c', rfl, ho, hb⟩

theorem rdNew_c (w : World) : Calls Tryz.prog 53 #[] w fun x w' => x = .returned (.pointer (some ⟨w.heap.size, 0, none⟩)) ∧ Qu w' w.heap.size [w.heap.size] [] ∧ Below w.heap.size w w' := by
  have K := Blk.new w #[.slice none 0 0, .map none] 135
  have HX := Lib.hid (show Qu (w.alloc (.cells #[.slice none 0 0, .map none] 135)) w.heap.size [w.heap.size] [] from
    ⟨⟨none, 0, none, K, Ow.nil _ _ _ _, .inl ⟨rfl, rfl⟩, rfl⟩, by simp⟩)
  have B := Lib.hid ((Below.refl w.heap.size w).alloc (Nat.le_refl _) (.cells #[.slice none 0 0, .map none] 135))
  clear K
  go_enter Tryz.func53, Tryz.ntmps53
  go_wp2_with fail
  go_ret
  exact ⟨rfl, HX.out, B.out⟩

end Go.Proofs.YtacipjdaiglnjaaGreatDoor

/- Contract of the queue's Go. -/
namespace Go.Proofs.YtacipjdaiglnjaaGreatDoor
open Go.RowKit PReady

/-- How long the slice is that a cell holds. -/
def slLenT : Option Value → Nat
  | some (.slice _ k _) => k
  | _ => 0
/-- The loop's state: X is what was told in this call. -/
structure GS (w wr : World) (g : Nat) (F : List Nat) (T : List Tl) (l : List Ent) (commit now : Int) (A : Option Addr) (c n : Nat) (F' : List Nat) (X : List Tl) : Prop where
  eq : go commit now T l = X ++ go commit now (T ++ X) l
  qu : Qu wr g F' (T ++ X)
  sub : ∀ k ∈ F', k ∈ F ∨ w.heap.size ≤ k
  touch : Touch F w wr
  rd : Rd wr w.heap.size A c 7 n (els l)
theorem GS.xlen {w wr : World} {g : Nat} {F : List Nat} {T : List Tl} {l : List Ent} {commit now : Int} {A : Option Addr} {c n : Nat} {F' : List Nat} {X : List Tl} (h : GS w wr g F T l commit now A c n F' X) : X.length ≤ n := by
  have h1 := go_len commit now T l
  have h2 := congrArg List.length h.eq
  rw [List.length_append] at h2
  have := h.rd.elen
  omega
/-- A call that made memory alone. -/
theorem GS.past {w wr w' : World} {g : Nat} {F : List Nat} {T : List Tl} {l : List Ent} {commit now : Int} {A : Option Addr} {c n : Nat} {F' : List Nat} {X : List Tl} (h : GS w wr g F T l commit now A c n F' X) (hb : Below wr.heap.size wr w') : GS w w' g F T l commit now A c n F' X :=
  ⟨h.eq, h.qu.past hb, h.sub, h.touch.trans (.of_below hb), h.rd.past hb⟩

set_option maxHeartbeats 8000000 in
set_option maxRecDepth 100000 in
theorem Go_c (w : World) (g : Nat) (F : List Nat) (T : List Tl) (h : Qu w g F T) (A : Option Addr) (c n : Nat) (l : List Ent) (R : Rd w w.heap.size A c 7 n (els l)) (hd : 0 < n * 7 → ∀ k ∈ F, bk A ≠ some k)
    (hfit : ∀ e ∈ l, PEnt.Fit e) (hap : Apart l) (hn : n ≤ 60) (hT : T.length + n ≤ 1000000) (commit now : Int) :
    Calls Tryz.prog 71 #[.pointer (some ⟨g, 0, none⟩), .slice A n c, .int .i64 commit, .int .i64 now] w fun x w' => ∃ A' c', x = .returned (.slice A' (go commit now T l).length c') ∧
      w'.ownsRow w.heap.size 95 8 (.slice A' (go commit now T l).length c') (go commit now T l).length (tls (go commit now T l)) ∧ QW w w' g F (T ++ go commit now T l) := by
  have hle := R.le
  have hcut : ∀ W, (Instr.sliceAt 29 (.slice A n c) none (some (.int .i64 n)) none).run Tryz.prog W = .ok (.slice A n c) W := fun W => run_short 29 93 Tryz.underlying29 ent_info A n c n hle
  have HL := Lib.hid R.elen
  have HFIT := Lib.hid hfit
  have HAP := Lib.hid hap
  have HTN := Lib.hid hT
  have HD := Lib.hid hd
  obtain ⟨A0, c0, q0, d0, -, -, -, -⟩ := h.open
  have ST := Lib.hid (show GS w w g F T l commit now A c n F [] from ⟨by simp, by rw [List.append_nil]; exact h, fun k hk => .inl hk, Touch.refl _ _, R⟩)
  have HLE := Lib.hid (show Calls _ _ _ w _ from by simpa using least_c w g F T h A c n l R hfit commit now)
  clear R hle hfit hap hT hd h
  go_enter Tryz.func71, Tryz.ntmps71
  go_wp2_with ((with_reducible show wpList _ _ _ ((⟨some 17, Op.slice _ _ _ _ _, _, _, _, _⟩ : Oper) :: _) _ _); (refine wpList_plain rfl fun K hK => ?_; unfold Oper.wp; rw [run_sliceOp (hcut _), Oper.upon_value]; refine hK _ _ ?_))
  clear d0
  refine HLE.out.mono ?_
  rintro x w1 ⟨rfl, b1⟩
  have S1 := Lib.hid (show GS w w1 g F T l commit now A c n F [] from ST.out.past b1)
  clear ST HLE b1
  go_wp2_with fail
  go_loopw [10] (fun s10 wr => ∃ (F' : List Nat) (X : List Tl), s10 = .int .i64 (spot (least commit now (T ++ X) 0 Fl.none l)) ∧ Hid (GS w wr g F T l commit now A c n F' X)) (fun _ wr => T.length + n - slLenT (wr.cell? ⟨g, 0, none⟩))
  case atStart => exact ⟨F, [], by rw [List.append_nil], S1⟩
  case round =>
    obtain ⟨F', X, rfl, HS⟩ := hrel
    clear S1
    obtain ⟨A1, c1, q1, d1, -, RT, -, -⟩ := HS.out.qu.open
    have d1' := Lib.hid d1
    cases hls : least commit now (T ++ X) 0 Fl.none l
    · have HG := Lib.hid (go_none HS.out.eq hls)
      have j0 : spot none = 0 := rfl
      rw [j0]
      rw [List.length_append] at RT d1
      obtain ⟨A3, c3, hrun3, R3⟩ := cut_any (P := Tryz.prog) (w := wr) 28 95 Tryz.underlying28 told_info RT (some (.int .i64 T.length)) none T.length (T.length + X.length) T.length 0 (Or.inr ⟨rfl, rfl⟩) (Or.inl ⟨rfl, rfl⟩) (by omega) (Nat.le_refl _)
      have e3 : ((tls (T ++ X)).drop (T.length * 8)).take ((T.length + X.length - T.length) * 8) = tls X := by
        rw [tls_drop, List.drop_left, tls_take]; congr 1; exact List.take_of_length_le (by simp)
      have e4 : T.length + X.length - T.length = X.length := by omega
      rw [e3, e4] at R3
      rw [e4] at hrun3
      have R3' := Lib.hid R3
      clear hls j0 RT R3 e3 e4 d1'
      go_wp2_with ((with_reducible show wpList _ _ _ ((⟨some 48, Op.slice _ _ _ _ _, _, _, _, _⟩ : Oper) :: _) _ _); (refine wpList_plain rfl fun K hK => ?_; unfold Oper.wp; rw [run_sliceOp (hrun3 _), Oper.upon_value]; refine hK _ _ ?_))
      clear d1
      refine (cloneT_c wr _ A3 c3 X.length X R3'.out (by have := HS.out.xlen; have := HTN.out; omega)).mono ?_
      rintro x w2 ⟨A', c', rfl, ho, hb⟩
      go_wp2_with fail
      go_ret
      refine ⟨A', c', by rw [HG.out]; rfl, ?_, ?_⟩
      · rw [HG.out]; exact own_base ho HS.out.touch.size
      · rw [HG.out]
        exact QW.ahead ⟨⟨F', HS.out.qu, HS.out.sub⟩, HS.out.touch⟩ hb
    · rename_i t
      obtain ⟨p, e⟩ := t
      obtain ⟨k, hk, hp, hh⟩ := least_mem hls
      have hp' : p = (k : Int) + 1 := by simpa using hp
      subst hp'
      have HG := Lib.hid (go_some HAP.out HS.out.eq hls)
      have hkn : k < n := by have := (List.getElem?_eq_some_iff.1 hk).1; have := HL.out; omega
      have HX := Lib.hid (show X.length < n by
        have h1 := congrArg List.length HG.out
        have h2 := go_len commit now T l
        simp only [List.length_append, List.length_cons, List.length_nil] at h1
        have := HL.out
        omega)
      have HFe := Lib.hid (HFIT.out e (List.mem_of_getElem? hk))
      have j0 : spot (some ((k : Int) + 1, e)) = (k : Int) + 1 := rfl
      rw [j0]
      have j1 : (0 : Int) < (k : Int) + 1 := by omega
      have j2 : (k : Int) + 1 - 1 = (k : Int) := by omega
      obtain ⟨b, o, y, rfl, hb, he, -, y0, y1, y2, y3, y4, y5, y6⟩ := HS.out.rd.ent hkn
      obtain rfl : e = y := by have := hk.symm.trans he; exact Option.some.inj this
      clear hls j0 RT hp hk hh he d1
      go_wp2_with fail
      clear y0 y1 y2 y3 y4 y5 y6
      refine (show Calls Tryz.prog _ #[_, _, .agg #[.int .i64 e.fr, .int .i64 e.boot, .int .i64 e.seq, .int .i64 e.ord, .int .i64 e.lev, .int .i64 e.stamp, .string e.data]] wr _ from tell_c wr g F' (T ++ X) HS.out.qu ((k : Int) + 1) e HFe.out (by have := HX.out; have := HTN.out; simp only [List.length_append]; omega)).mono ?_
      rintro x w2 ⟨rfl, wq⟩
      obtain ⟨F2, q2, s2⟩ := wq.ex
      have S2 := Lib.hid (show GS w w2 g F T l commit now (some ⟨b, o, none⟩) c n F2 (X ++ [((k : Int) + 1, e)]) from by
        refine ⟨HG.out, by rw [← List.append_assoc]; exact q2, fun i hi => ?_, ?_, ?_⟩
        · rcases s2 i hi with q | q
          · exact HS.out.sub i q
          · exact .inr (Nat.le_trans HS.out.touch.size q)
        · exact HS.out.touch.trans4 wq.touch HS.out.sub
        · refine HS.out.rd.touch wq.touch (fun hz i hi => ?_)
          rcases HS.out.sub i hi with q | q
          · exact HD.out hz i q
          · intro hq
            have hq' : b = i := by simpa [bk] using hq
            omega)
      clear wq q2 s2
      go_wp2_with fail
      refine (least_c w2 g F2 (T ++ (X ++ [((k : Int) + 1, e)])) S2.out.qu (some ⟨b, o, none⟩) c n l S2.out.rd.tight HFIT.out commit now).mono ?_
      rintro x w3 ⟨rfl, b3⟩
      have S3 := Lib.hid (S2.out.past b3)
      have L3 := Lib.hid S3.out.qu.open
      have E1 := Lib.hid (show slLenT (wr.cell? ⟨g, 0, none⟩) = (T ++ X).length by rw [d1'.out]; rfl)
      clear b3 S2
      go_wp2_with fail
      go_roundw
      case rel => exact ⟨F2, X ++ [((k : Int) + 1, e)], rfl, S3⟩
      case measure =>
        obtain ⟨A5, c5, q5, d5, -⟩ := L3.out
        rw [E1.out, d5]
        have := HX.out
        simp only [slLenT, List.length_append, List.length_cons, List.length_nil]
        omega
end Go.Proofs.YtacipjdaiglnjaaGreatDoor

