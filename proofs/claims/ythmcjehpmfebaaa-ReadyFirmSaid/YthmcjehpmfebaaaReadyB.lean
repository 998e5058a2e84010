/- Contract of the queue's Has; small laws. -/
import Derived.Test.YthmcjehpmfebaaaReadyA
namespace Go.Proofs.Ythmcjehpmfebaaa
open Go.RowKit PReady

theorem Mq.below {w w' : World} {B : Nat} {M : Value} {T : List Tl} (h : Mq w M T) (hb : Below B w w') (hB : ∀ k ∈ ml M, k < B) : Mq w' M T := by
  rcases h with h | ⟨b, rfl, D, h1, h2⟩
  · exact .inl h
  · refine .inr ⟨b, rfl, D, ?_, h2⟩
    obtain ⟨es, clock, hbk, r⟩ := h1
    exact ⟨es, clock, (hb.block b (hB b (List.mem_singleton.2 rfl))).trans hbk, r⟩
/-- A slice is stored into its cell. -/
theorem run_storeS {w : World} {dst : Option Tmp} {x y : Operand} {ty : TypeId} {pos : String} {after : Array Edge} {guard : Option (Nat × Bool)} {ρ : Operand → Value} {g i : Nat} {A A' : Option Addr} {n c n' c' : Nat}
    (h : w.cell? ⟨g, i, none⟩ = some (.slice A' n' c')) (hf : w.frozen? ⟨g, i, none⟩ = false) (hx : ρ x = .pointer (some ⟨g, i, none⟩)) (hy : ρ y = .slice A n c) :
    (execOp ρ { dst, op := .store 30 x y, type := ty, pos, after, guard }).run Try.prog w = .ok .skip (w.setCell ⟨g, i, none⟩ (.slice A n c)) := by
  go_simp
theorem wpList_skipTo {P : Program} {ops : Array Oper} {Q : Exit → Act → World → Prop} {rest : List Oper} {o : Oper} {a : Act} {w : World} (hg : o.guard = none) (hd : o.dst = none) (w' : World) (hrun : (execOp a.eval o).run P w = .ok .skip w')
    (h : wpList P ops Q rest a w') : wpList P ops Q (o :: rest) a w := by
  refine wpList_plain hg fun K hK => ?_
  unfold Oper.wp
  rw [hrun]
  have h' : wpList P ops Q rest (a.put o.dst undef) w' := by rw [hd]; exact h
  exact hK _ _ h'

set_option maxHeartbeats 4000000 in
set_option maxRecDepth 100000 in
theorem Has_c (w : World) (g : Nat) (F : List Nat) (T : List Tl) (h : Qu w g F T) (e : Ent) (hf : PEnt.Fit e) :
    Calls Try.prog 19 #[.pointer (some ⟨g, 0, none⟩), ev e] w fun x w' => x = .returned (.bool (has T e)) ∧ Below w.heap.size w w' := by
  have B0 := Lib.hid ((Below.refl w.heap.size w).alloc (Nat.le_refl _) (.cells #[.int .i64 e.fr, .int .i64 e.boot, .int .i64 e.seq, .int .i64 e.ord, .int .i64 e.lev, .int .i64 e.stamp, .string e.data] 39))
  have K := Blk.newEnt w 39 e
  obtain ⟨A, c, q, hB, -, hM, -⟩ := (h.alloc (.cells #[.int .i64 e.fr, .int .i64 e.boot, .int .i64 e.seq, .int .i64 e.ord, .int .i64 e.lev, .int .i64 e.stamp, .string e.data] 39)).ex
  have HF := Lib.hid hf
  clear h hf
  show Calls _ _ #[_, .agg #[.int .i64 e.fr, .int .i64 e.boot, .int .i64 e.seq, .int .i64 e.ord, .int .i64 e.lev, .int .i64 e.stamp, .string e.data]] _ _
  go_enter Try.func19, Try.ntmps19
  go_wp2_with fail
  generalize (w.alloc (.cells #[.int .i64 e.fr, .int .i64 e.boot, .int .i64 e.seq, .int .i64 e.ord, .int .i64 e.lev, .int .i64 e.stamp, .string e.data] 39)) = w1 at *
  have HB := Lib.hid (show Blk w1.drew g 59 _ from hB)
  have HM := Lib.hid (show Mq w1.drew (.map q) T from hM)
  have HMB := Lib.hid (show ∀ k ∈ ml (.map q), k < w1.heap.size from hM.hi)
  have HK := Lib.hid (show Blk w1.drew w.heap.size 39 (ecs e) from K)
  have LG := Lib.hid (show g < w1.heap.size from hB.lt)
  have LK := Lib.hid (show w.heap.size < w1.heap.size from K.lt)
  clear hB hM K
  have BD := Lib.hid (show Below w1.heap.size w1 w1.drew from (Below.refl _ _).drew)
  refine Hb.begin ?_
  refine Hb.take (v := .pointer (some ⟨g, 0, none⟩)) 0 10 rfl ?_ (fun _ _ => rfl)
  refine Hb.take (v := .pointer (some ⟨g, 0, none⟩)) 1 11 rfl ?_ (fun _ _ => rfl)
  refine Hb.take (v := .pointer (some ⟨g, 1, none⟩)) 2 12 rfl ?_ (fun w' hw' => by go_simp)
  refine Hb.take (v := .map q) 3 13 rfl ?_ (fun w' hw' => run_loadM ((HB.out.below hw' LG.out).cell (i := 1) rfl) rfl)
  refine Hb.take (v := ev e) 4 14 rfl ?_ (fun w' hw' => run_loadE ((HK.out.below hw' LK.out).range) rfl)
  refine Hb.two 5 10 ?_ ?_
  · refine Hb.pickCall (f := 30) (args := #[ev e]) 5 15 rfl ?_ (run_callf Try.func30 (by kernel_rfl) (by kernel_rfl) (by simp only [List.map_toArray, List.map_cons, List.map_nil]; rfl))
    refine (broadcastOf_c _ e).mono ?_
    rintro x w3 ⟨rfl, b3⟩
    refine Hb.back (B' := w1.heap.size) (show Below w1.heap.size _ w3 from b3) (Nat.le_refl _) ?_
    refine Hb.take (v := .tuple #[.agg #[], .bool (has T e)]) 6 16 rfl ?_ (fun w' hw' => run_lookB ((HM.out.below (show Below w1.heap.size _ w3 from b3) HMB.out).below hw' HMB.out) HF.out rfl rfl)
    refine Hb.take (v := .tuple #[.agg #[], .bool (has T e)]) 7 9 rfl ?_ (fun _ _ => rfl)
    refine Hb.take (v := .agg #[]) 8 17 rfl ?_ (fun w' hw' => by go_simp)
    refine Hb.take (v := .bool (has T e)) 9 18 rfl ?_ (fun w' hw' => by go_simp)
    refine Hb.only 10 (some 5) rfl ?_
    refine wpList_runTo' rfl (.pointer (some ⟨w3.heap.size, 0, none⟩)) (w3.alloc (.cells #[] 64)) (by go_simp) ?_
    have BS := Lib.hid (show w1.heap.size ≤ w3.heap.size from b3.size)
    have BU := Lib.hid ((Below.refl w1.heap.size w3).alloc BS.out (.cells #[] 64))
    have KU := Lib.hid (Blk.new w3 #[] 64)
    refine Hb.next (B' := w1.heap.size) BU.out (Nat.le_refl _) ?_ (by simp only [Act.put, List.setIfInBounds_toArray, List.set_cons_succ, List.set_cons_zero]; rfl)
    refine Hb.only 11 none rfl ?_
    refine wpList_store_row rfl 64 (.tmp 5) (.tmp 17) rfl w3.heap.size #[] rfl rfl 64 #[] KU.out (by kernel_rfl) rfl (by simp) ?_
    have BF := Lib.hid (grown_below (grown_row (w3.alloc (.cells #[] 64)) w3.heap.size #[]) (show w1.heap.size ≤ w3.heap.size from BS.out) (show w1.heap.size ≤ (w3.alloc (.cells #[] 64)).heap.size from Nat.le_trans BS.out BU.out.size))
    refine Hb.next (B' := w1.heap.size) BF.out (Nat.le_refl _) ?_ rfl
    refine Hb.take (v := .bool (has T e)) 12 6 rfl ?_ (fun _ _ => rfl)
    refine Hb.done ?_
    go_wp2_with fail
    go_ret
    exact ⟨rfl, B0.out.trans ((((BD.out.trans b3).trans BU.out).trans BF.out).mono B0.out.size)⟩
  · refine Hb.pick 10 (some 5) rfl ?_
    refine wpList_runTo' rfl (.pointer (some ⟨w1.drew.heap.size, 0, none⟩)) (w1.drew.alloc (.cells #[] 64)) (by go_simp) ?_
    have BU := Lib.hid ((Below.refl w1.heap.size w1.drew).alloc (Nat.le_refl _) (.cells #[] 64))
    have KU0 := Blk.new w1.drew #[] 64
    refine Hb.next (B' := w1.heap.size) BU.out (Nat.le_refl _) ?_ (by simp only [Act.put, List.setIfInBounds_toArray, List.set_cons_succ, List.set_cons_zero]; rfl)
    refine Hb.call (f := 30) (args := #[ev e]) 5 15 rfl ?_ (run_callf Try.func30 (by kernel_rfl) (by kernel_rfl) (by simp only [List.map_toArray, List.map_cons, List.map_nil]; rfl))
    refine (broadcastOf_c _ e).mono ?_
    rintro x w3 ⟨rfl, b3⟩
    have KU := Lib.hid (KU0.past b3)
    have B3 := Lib.hid (show Below w1.heap.size (w1.drew.alloc (.cells #[] 64)) w3 from b3.mono (by simp))
    have BS := Lib.hid (show w1.heap.size ≤ w3.heap.size from Nat.le_trans BU.out.size B3.out.size)
    clear KU0 b3
    refine Hb.back (B' := w1.heap.size) B3.out (Nat.le_refl _) ?_
    refine Hb.take (v := .tuple #[.agg #[], .bool (has T e)]) 6 16 rfl ?_ (fun w' hw' => run_lookB ((HM.out.below (BU.out.trans B3.out) HMB.out).below hw' HMB.out) HF.out rfl rfl)
    refine Hb.take (v := .tuple #[.agg #[], .bool (has T e)]) 7 9 rfl ?_ (fun _ _ => rfl)
    refine Hb.take (v := .agg #[]) 8 17 rfl ?_ (fun w' hw' => by go_simp)
    refine Hb.take (v := .bool (has T e)) 9 18 rfl ?_ (fun w' hw' => by go_simp)
    refine Hb.only 11 none rfl ?_
    refine wpList_store_row rfl 64 (.tmp 5) (.tmp 17) rfl w1.drew.heap.size #[] rfl rfl 64 #[] KU.out (by kernel_rfl) rfl (by simp) ?_
    have BF := Lib.hid (grown_below (grown_row w3 w1.drew.heap.size #[]) (show w1.heap.size ≤ w1.drew.heap.size from Nat.le_refl _) (show w1.heap.size ≤ w3.heap.size from BS.out))
    refine Hb.next (B' := w1.heap.size) BF.out (Nat.le_refl _) ?_ rfl
    refine Hb.take (v := .bool (has T e)) 12 6 rfl ?_ (fun _ _ => rfl)
    refine Hb.done ?_
    go_wp2_with fail
    go_ret
    exact ⟨rfl, B0.out.trans ((((BD.out.trans BU.out).trans B3.out).trans BF.out).mono B0.out.size)⟩
/-- Of no queue. -/
theorem Has_nil (w : World) (e : Ent) :
    Calls Try.prog 19 #[.pointer none, ev e] w fun x w' => x = .returned (.bool false) ∧ Below w.heap.size w w' := by
  have B0 := Lib.hid ((Below.refl w.heap.size w).alloc (Nat.le_refl _) (.cells #[.int .i64 e.fr, .int .i64 e.boot, .int .i64 e.seq, .int .i64 e.ord, .int .i64 e.lev, .int .i64 e.stamp, .string e.data] 39))
  show Calls _ _ #[_, .agg #[.int .i64 e.fr, .int .i64 e.boot, .int .i64 e.seq, .int .i64 e.ord, .int .i64 e.lev, .int .i64 e.stamp, .string e.data]] _ _
  go_enter Try.func19, Try.ntmps19
  go_wp2_with fail
  go_ret
  exact ⟨rfl, B0.out⟩
end Go.Proofs.Ythmcjehpmfebaaa
