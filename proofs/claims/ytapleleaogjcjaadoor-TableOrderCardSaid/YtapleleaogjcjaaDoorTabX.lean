/- A law's table; the statements' begun. Made by program (gen15x.py). -/
import Derived.Test.YtapleleaogjcjaaDoorTabT
import Derived.Test.YtapleleaogjcjaaDoorTabQ
import Derived.Test.YtapleleaogjcjaaDoorEntQ
import Derived.Test.YtapleleaogjcjaaDoorHeldT
import Derived.BigRegion
namespace Go.Proofs.YtapleleaogjcjaaDoor
open Go.RowKit PTab

section
variable {P : Program} {ops : Array Oper} {Q : Exit → Act → World → Prop} {S : List Nat}
theorem Touch.wider {S S' : List Nat} {a b c : World} (h : Touch S a b) (k : Touch S' b c) (hs : ∀ x ∈ S', x ∈ S ∨ a.heap.size ≤ x) : Touch S a c :=
  ⟨k.os.trans h.os, k.tape.trans h.tape, k.output.trans h.output, Nat.le_trans h.size k.size, fun i hi hn => (k.block i (Nat.lt_of_lt_of_le hi h.size) (fun hm => (hs i hm).elim hn (fun h' => by omega))).trans (h.block i hi hn)⟩
/-- A call behind which more may be written: what it made. -/
theorem Hs.callW {n : Nat} {listed : Array Bool} {a : Act} {w : World} {o : Oper} {f : FuncId} {args : Array Value} (i d : Nat) (hi : ops[i]? = some o)
    (h : Calls P f args w fun e w' => ∃ (v : Value) (a' : Act) (S' : List Nat), e = .returned v ∧ a.put (some d) v = a' ∧ Touch S w w' ∧ (∀ k ∈ S', k ∈ S ∨ w.heap.size ≤ k) ∧ Hs P ops Q S' n (listed.setIfInBounds i true) a' w')
    (hrun : (execOp a.eval o).run P w = .ok (.enter f args) w)
    (hr : Region.ready .any ops listed = [i] := by kernel_rfl) (hw : Region.wanted o (yielded ops a.tmps) = true := by rfl) (hd : o.dst = some d := by rfl) : Hs P ops Q S (n + 1) listed a w := by
  refine Hs.one i ?_ hr
  rw [← hd] at h
  unfold Ps wpOp
  simp only [hi, hw, if_true]
  refine .inl ?_
  unfold Oper.wp
  rw [hrun]
  refine h.mono fun e w' => ?_
  rintro ⟨v, a', S', rfl, rfl, hb, hs, hh⟩
  exact ⟨hb, wpAnyH_less (fun _ h' => hb.wider h' hs) _ _ _ _ hh⟩
end

/-- A law's table: its blocks were made behind the law's beginning. -/
structure Tx (w0 w : World) (g : Nat) (F : List Nat) (c : Nat) (L : List Pr) : Prop where
  tb : Tb w g F c L
  low : ∀ k ∈ F, w0.heap.size ≤ k
  bel : Below w0.heap.size w0 w
section
variable {w0 w w' : World} {g c : Nat} {F : List Nat} {L : List Pr}
theorem Tx.past (h : Tx w0 w g F c L) (hb : Below w.heap.size w w') : Tx w0 w' g F c L := ⟨h.tb.past hb, h.low, h.bel.trans (hb.mono h.bel.size)⟩
theorem Tx.drew (h : Tx w0 w g F c L) : Tx w0 w.drew g F c L := ⟨h.tb.drew, h.low, h.bel.drew⟩
theorem Tx.touch {S : List Nat} (h : Tx w0 w g F c L) (ht : Touch S w w') (hs : ∀ k ∈ S, k ∉ F ∧ w0.heap.size ≤ k) : Tx w0 w' g F c L :=
  ⟨h.tb.touch ht (fun k hk => (hs k hk).1), h.low, h.bel.trans (ht.below (fun k hk => (hs k hk).2) h.bel.size)⟩
theorem Tx.tab (h : Tx w0 w g F c L) (ht : Tab w0) : Tab w := ht.past h.bel
theorem Tx.go (h : Tx w0 w g F c L) (e : Ent) (hd : e.data.size ≤ 1000000) (hc : c < 1000000) :
    Calls Tryd.prog 11 #[.pointer (some ⟨g, 0, none⟩), ev e] w fun x w' => ∃ F', x = .returned (.bool (did e)) ∧ Tx w0 w' g F' (c + 1) (doo L e) ∧ (∀ k ∈ F', k ∈ F ∨ w.heap.size ≤ k) ∧ Touch F w w' := by
  refine (Do_c w g F c L h.tb e hd hc).mono ?_
  rintro x w' ⟨rfl, ⟨F', h1, h2⟩, h3⟩
  refine ⟨F', rfl, ⟨h1, fun k hk => ?_, h.bel.trans (h3.below h.low h.bel.size)⟩, h2, h3⟩
  rcases h2 k hk with q | q
  · exact h.low k q
  · exact Nat.le_trans h.bel.size q
end

def e0 : Ent := ⟨1, 1, 1, 0, 0, 0, ⟨#[]⟩⟩
def eB : Ent := ⟨1, 1, 1, 0, 0, 0, ⟨#[97, 61, 98, 61, 99]⟩⟩
def fB : Ent := ⟨1, 1, 1, 0, 0, 0, ⟨#[61, 120]⟩⟩
def gB : Ent := ⟨1, 1, 1, 0, 0, 0, ⟨#[97, 61]⟩⟩
def pB : Pr := (⟨#[97]⟩, ⟨#[98, 61, 99]⟩)
theorem bgw1 : word eB.data = some pB := by rfl
theorem bgw2 : word fB.data = none := by rfl
theorem bgw3 : word gB.data = some (⟨#[97]⟩, ⟨#[]⟩) := by rfl
theorem bgm1 : PEnt.may eB = true := by decide
theorem bgm3 : PEnt.may gB = true := by decide
theorem bg1 : did eB = true ∧ doo [] eB = [pB] := by
  refine ⟨by unfold did; rw [bgw1, bgm1]; rfl, ?_⟩
  unfold doo; rw [bgw1]; simp only [bgm1, if_true]; rfl
theorem bg2 : did fB = false ∧ doo [pB] fB = [pB] := by
  refine ⟨by unfold did; rw [bgw2]; rfl, ?_⟩
  unfold doo; rw [bgw2]
theorem bg3 : did gB = true ∧ doo [pB] gB = [] := by
  refine ⟨by unfold did; rw [bgw3, bgm3]; rfl, ?_⟩
  unfold doo; rw [bgw3]; simp only [bgm3, if_true]
  show ins ⟨#[97]⟩ ⟨#[]⟩ [pB] true = []
  rw [ins_true]
  simp [pB, eqb_self]
theorem bg4 : get [pB] ⟨#[97]⟩ = some ⟨#[98, 61, 99]⟩ := by simp [PTab.get, pB, eqb_self]
theorem one_key : (⟨#[97]⟩ : ByteArray).size ≤ maxLen := by unfold maxLen; decide

set_option maxHeartbeats 8000000 in
set_option maxRecDepth 100000 in
theorem begun_c (w : World) (ht : Tab w) :
    Calls Tryd.prog 8 #[] w fun x w' => x = .returned (.bool true) ∧ Below w.heap.size w w' := by
  have HT := Lib.hid ht
  clear ht
  go_enter Tryd.func8, Tryd.ntmps8
  go_wp2_with fail
  refine (New_c w).mono ?_
  rintro x w1 ⟨rfl, q1, b1⟩
  have s1 : (w1.alloc (.cells #[.int .i64 1, .int .i64 1, .int .i64 1, .int .i64 0, .int .i64 0, .int .i64 0, .string ⟨#[]⟩] 32)).heap.size = w1.heap.size + 1 := by simp
  have s2 : ((w1.alloc (.cells #[.int .i64 1, .int .i64 1, .int .i64 1, .int .i64 0, .int .i64 0, .int .i64 0, .string ⟨#[]⟩] 32)).alloc (.cells #[.int .i64 1, .int .i64 1, .int .i64 1, .int .i64 0, .int .i64 0, .int .i64 0, .string ⟨#[]⟩] 32)).heap.size = w1.heap.size + 1 + 1 := by simp
  have bA := (Below.refl w1.heap.size w1).alloc (Nat.le_refl _) (.cells #[.int .i64 1, .int .i64 1, .int .i64 1, .int .i64 0, .int .i64 0, .int .i64 0, .string ⟨#[]⟩] 32)
  have bB := (Below.refl (w1.alloc (.cells #[.int .i64 1, .int .i64 1, .int .i64 1, .int .i64 0, .int .i64 0, .int .i64 0, .string ⟨#[]⟩] 32)).heap.size (w1.alloc (.cells #[.int .i64 1, .int .i64 1, .int .i64 1, .int .i64 0, .int .i64 0, .int .i64 0, .string ⟨#[]⟩] 32))).alloc (Nat.le_refl _) (.cells #[.int .i64 1, .int .i64 1, .int .i64 1, .int .i64 0, .int .i64 0, .int .i64 0, .string ⟨#[]⟩] 32)
  have bC := (Below.refl ((w1.alloc (.cells #[.int .i64 1, .int .i64 1, .int .i64 1, .int .i64 0, .int .i64 0, .int .i64 0, .string ⟨#[]⟩] 32)).alloc (.cells #[.int .i64 1, .int .i64 1, .int .i64 1, .int .i64 0, .int .i64 0, .int .i64 0, .string ⟨#[]⟩] 32)).heap.size ((w1.alloc (.cells #[.int .i64 1, .int .i64 1, .int .i64 1, .int .i64 0, .int .i64 0, .int .i64 0, .string ⟨#[]⟩] 32)).alloc (.cells #[.int .i64 1, .int .i64 1, .int .i64 1, .int .i64 0, .int .i64 0, .int .i64 0, .string ⟨#[]⟩] 32))).alloc (Nat.le_refl _) (.cells #[.int .i64 1, .int .i64 1, .int .i64 1, .int .i64 0, .int .i64 0, .int .i64 0, .string ⟨#[]⟩] 32)
  have kA := Lib.hid (show Blk (((w1.alloc (.cells #[.int .i64 1, .int .i64 1, .int .i64 1, .int .i64 0, .int .i64 0, .int .i64 0, .string ⟨#[]⟩] 32)).alloc (.cells #[.int .i64 1, .int .i64 1, .int .i64 1, .int .i64 0, .int .i64 0, .int .i64 0, .string ⟨#[]⟩] 32)).alloc (.cells #[.int .i64 1, .int .i64 1, .int .i64 1, .int .i64 0, .int .i64 0, .int .i64 0, .string ⟨#[]⟩] 32)).drew w1.heap.size 32 (ecs e0) from (((Blk.newEnt w1 32 e0).past bB).past bC).drew)
  have kB := (Blk.newEnt (w1.alloc (.cells #[.int .i64 1, .int .i64 1, .int .i64 1, .int .i64 0, .int .i64 0, .int .i64 0, .string ⟨#[]⟩] 32)) 32 e0).past bC
  have kC := Blk.newEnt ((w1.alloc (.cells #[.int .i64 1, .int .i64 1, .int .i64 1, .int .i64 0, .int .i64 0, .int .i64 0, .string ⟨#[]⟩] 32)).alloc (.cells #[.int .i64 1, .int .i64 1, .int .i64 1, .int .i64 0, .int .i64 0, .int .i64 0, .string ⟨#[]⟩] 32)) 32 e0
  rw [s1] at kB
  rw [s2] at kC
  have KB := Lib.hid (show Blk (((w1.alloc (.cells #[.int .i64 1, .int .i64 1, .int .i64 1, .int .i64 0, .int .i64 0, .int .i64 0, .string ⟨#[]⟩] 32)).alloc (.cells #[.int .i64 1, .int .i64 1, .int .i64 1, .int .i64 0, .int .i64 0, .int .i64 0, .string ⟨#[]⟩] 32)).alloc (.cells #[.int .i64 1, .int .i64 1, .int .i64 1, .int .i64 0, .int .i64 0, .int .i64 0, .string ⟨#[]⟩] 32)).drew (w1.heap.size + 1) 32 (ecs e0) from kB.drew)
  have KC := Lib.hid (show Blk (((w1.alloc (.cells #[.int .i64 1, .int .i64 1, .int .i64 1, .int .i64 0, .int .i64 0, .int .i64 0, .string ⟨#[]⟩] 32)).alloc (.cells #[.int .i64 1, .int .i64 1, .int .i64 1, .int .i64 0, .int .i64 0, .int .i64 0, .string ⟨#[]⟩] 32)).alloc (.cells #[.int .i64 1, .int .i64 1, .int .i64 1, .int .i64 0, .int .i64 0, .int .i64 0, .string ⟨#[]⟩] 32)).drew (w1.heap.size + 1 + 1) 32 (ecs e0) from kC.drew)
  have SX := Lib.hid (((show Tx w w1 w.heap.size [w.heap.size] 0 [] from ⟨q1, fun k hk => by rw [List.mem_singleton.1 hk]; exact Nat.le_refl _, b1⟩).past bA).past bB |>.past bC).drew
  have LW := Lib.hid b1.size
  clear q1 b1 s1 s2 bA bB bC kB kC
  go_wp2_with fail
  go_big_region
  · as_aux_lemma =>
    have N23 := Lib.hid (show w1.heap.size ≠ w1.heap.size + 1 by omega)
    have N24 := Lib.hid (show w1.heap.size ≠ w1.heap.size + 1 + 1 by omega)
    have N34 := Lib.hid (show w1.heap.size + 1 ≠ w1.heap.size + 1 + 1 by omega)
    have L2 := Lib.hid (show w.heap.size ≤ w1.heap.size from LW.out)
    have L3 := Lib.hid (show w.heap.size ≤ w1.heap.size + 1 by have := LW.out; omega)
    have L4 := Lib.hid (show w.heap.size ≤ w1.heap.size + 1 + 1 by have := LW.out; omega)
    generalize (((w1.alloc (.cells #[.int .i64 1, .int .i64 1, .int .i64 1, .int .i64 0, .int .i64 0, .int .i64 0, .string ⟨#[]⟩] 32)).alloc (.cells #[.int .i64 1, .int .i64 1, .int .i64 1, .int .i64 0, .int .i64 0, .int .i64 0, .string ⟨#[]⟩] 32)).alloc (.cells #[.int .i64 1, .int .i64 1, .int .i64 1, .int .i64 0, .int .i64 0, .int .i64 0, .string ⟨#[]⟩] 32)).drew = w2 at *
    have K2 : Hid (Blk w2 w1.heap.size 32 (ecs e0)) := kA
    have K3 : Hid (Blk w2 (w1.heap.size + 1) 32 (ecs e0)) := KB
    have K4 : Hid (Blk w2 (w1.heap.size + 1 + 1) 32 (ecs e0)) := KC
    clear kA KB KC LW
    generalize w1.heap.size + 1 + 1 = k4 at *
    generalize w1.heap.size + 1 = k3 at *
    generalize w1.heap.size = k2 at *
    obtain ⟨g, hg⟩ : ∃ g, w.heap.size = g := ⟨_, rfl⟩
    have F2 := Lib.hid (SX.out.tb.ne K2.out (by decide))
    have F3 := Lib.hid (SX.out.tb.ne K3.out (by decide))
    have F4 := Lib.hid (SX.out.tb.ne K4.out (by decide))
    have c2 := K2.out.cell (i := 6) rfl
    have f2 := K2.out.free 6
    have d3 := K3.out.cell (i := 6) rfl
    have h3 := K3.out.free 6
    have d4 := K4.out.cell (i := 6) rfl
    have h4 := K4.out.free 6
    have n1 := N23.out
    have n2 := N24.out
    have n3 := N34.out
    have n4 := N23.out.symm
    have n5 := N24.out.symm
    have n6 := N34.out.symm
    have H2 := Lib.hid (show Blk (w2.setCell ⟨k2, 6, none⟩ (.string eB.data)) k2 32 (ecs eB) from K2.out.set 6 (.string eB.data))
    have H3 := Lib.hid (K3.out.far (grown_set w2 k2 6 (.string eB.data)) N23.out.symm)
    have H4 := Lib.hid (K4.out.far (grown_set w2 k2 6 (.string eB.data)) N24.out.symm)
    have t2 := Touch.of_grown (grown_set w2 k2 6 (.string eB.data))
    have c3 := H3.out.cell (i := 6) rfl
    have f3 := H3.out.free 6
    have I2 := Lib.hid (H2.out.far (grown_set _ k3 6 (.string fB.data)) N23.out)
    have I3 := Lib.hid (show Blk ((w2.setCell ⟨k2, 6, none⟩ (.string eB.data)).setCell ⟨k3, 6, none⟩ (.string fB.data)) k3 32 (ecs fB) from H3.out.set 6 (.string fB.data))
    have I4 := Lib.hid (H4.out.far (grown_set _ k3 6 (.string fB.data)) N34.out.symm)
    have t3 := Touch.of_grown (grown_set (w2.setCell ⟨k2, 6, none⟩ (.string eB.data)) k3 6 (.string fB.data))
    have c4 := I4.out.cell (i := 6) rfl
    have f4 := I4.out.free 6
    have J2 := Lib.hid (I2.out.far (grown_set _ k4 6 (.string gB.data)) N24.out)
    have J3 := Lib.hid (I3.out.far (grown_set _ k4 6 (.string gB.data)) N34.out)
    have J4 := Lib.hid (show Blk (((w2.setCell ⟨k2, 6, none⟩ (.string eB.data)).setCell ⟨k3, 6, none⟩ (.string fB.data)).setCell ⟨k4, 6, none⟩ (.string gB.data)) k4 32 (ecs gB) from I4.out.set 6 (.string gB.data))
    have t4 := Touch.of_grown (grown_set ((w2.setCell ⟨k2, 6, none⟩ (.string eB.data)).setCell ⟨k3, 6, none⟩ (.string fB.data)) k4 6 (.string gB.data))
    have SY := Lib.hid (((SX.out.touch t2 (fun k hk => by rw [List.mem_singleton.1 hk]; exact ⟨F2.out, L2.out⟩)).touch t3 (fun k hk => by rw [List.mem_singleton.1 hk]; exact ⟨F3.out, L3.out⟩)).touch t4 (fun k hk => by rw [List.mem_singleton.1 hk]; exact ⟨F4.out, L4.out⟩))
    clear t2 t3 t4 H2 H3 H4 I2 I3 I4 K2 K3 K4 SX
    simp only [eB, fB, gB] at c2 f2 c3 f3 c4 f4 J2 J3 J4 SY
    rw [hg] at SY F2 F3 F4 ⊢
    go_wp2_with fail
    clear c2 f2 c3 f3 c4 f4 d3 h3 d4 h4 n1 n2 n3 n4 n5 n6
    generalize (((w2.setCell ⟨k2, 6, none⟩ (.string ⟨#[97, 61, 98, 61, 99]⟩)).setCell ⟨k3, 6, none⟩ (.string ⟨#[61, 120]⟩)).setCell ⟨k4, 6, none⟩ (.string ⟨#[97, 61]⟩)) = w3 at *
    have J2 : Hid (Blk w3.drew k2 32 (ecs eB)) := J2
    have J3 : Hid (Blk w3.drew k3 32 (ecs fB)) := J3
    have J4 : Hid (Blk w3.drew k4 32 (ecs gB)) := J4
    have SZ := Lib.hid SY.out.drew
    clear SY
    refine Hs.begin [g] ?_
    refine Hs.take (v := .pointer (some ⟨g, 0, none⟩)) 0 22 rfl ?_ (fun _ _ => rfl)
    refine Hs.take (v := ev eB) 1 23 rfl ?_ (fun w' hw' => run_loadE ((J2.out.touch hw' F2.out).range) rfl)
    refine Hs.take (v := .pointer (some ⟨g, 0, none⟩)) 3 25 rfl ?_ (fun _ _ => rfl)
    refine Hs.take (v := ev fB) 4 26 rfl ?_ (fun w' hw' => run_loadE ((J3.out.touch hw' F3.out).range) rfl)
    refine Hs.callW (f := 11) (args := #[.pointer (some ⟨g, 0, none⟩), ev eB]) 2 24 rfl ?_ (run_callf Tryd.func11 (by kernel_rfl) (by kernel_rfl) (by simp only [List.map_toArray, List.map_cons, List.map_nil]; rfl))
    refine (SZ.out.go eB (by decide) (by omega)).mono ?_
    rw [bg1.1, bg1.2]
    rintro x w6 ⟨F6, rfl, s6, f6, t6⟩
    have S6 := Lib.hid s6
    have J4 := Lib.hid (show Blk w6 k4 32 (ecs gB) from J4.out.touch t6 F4.out)
    have G4 := Lib.hid (S6.out.tb.ne J4.out (by decide))
    refine ⟨.bool true, _, F6, rfl, (by simp only [Act.put, List.setIfInBounds_toArray, List.set_cons_succ, List.set_cons_zero]; rfl), t6, f6, ?_⟩
    clear s6 f6 t6
    refine Hs.call (f := 11) (args := #[.pointer (some ⟨g, 0, none⟩), ev fB]) 5 27 rfl ?_ (run_callf Tryd.func11 (by kernel_rfl) (by kernel_rfl) (by simp only [List.map_toArray, List.map_cons, List.map_nil]; rfl))
    refine (S6.out.go fB (by decide) (by omega)).mono ?_
    rw [bg2.1, bg2.2]
    rintro x w7 ⟨F7, rfl, s7, f7, t7⟩
    have S7 := Lib.hid s7
    have J4 := Lib.hid (show Blk w7 k4 32 (ecs gB) from J4.out.touch t7 G4.out)
    refine Hs.back (v := .bool false) t7 ?_
    clear s7 f7 t7
    refine Hs.take (v := .bool true) 6 5 rfl ?_ (fun _ _ => rfl)
    refine Hs.take (v := .bool false) 7 6 rfl ?_ (fun _ _ => rfl)
    refine Hs.done ?_
    clear J2 J3
    go_wp2_with fail
    refine (Get_c w7 g F7 2 [pB] S7.out.tb ⟨#[97]⟩ one_key).mono ?_
    rw [bg4]
    rintro x w8 ⟨rfl, b8⟩
    have S8 := Lib.hid (S7.out.past b8)
    have J8 := Lib.hid (J4.out.past b8)
    clear b8
    go_wp2_with fail
    refine (Names_c w8 g F7 2 [pB] S8.out.tb (by omega)).mono ?_
    rintro x w9 ⟨A9, c9, rfl, o9, -, b9⟩
    have S9 := Lib.hid (S8.out.past b9)
    have J9 := J8.out.past b9
    have e0 := J9.cell (i := 0) rfl
    have e1 := J9.cell (i := 1) rfl
    have e2 := J9.cell (i := 2) rfl
    have e3 := J9.cell (i := 3) rfl
    have e4 := J9.cell (i := 4) rfl
    have e5 := J9.cell (i := 5) rfl
    have e6 := J9.cell (i := 6) rfl
    simp only [gB] at e0 e1 e2 e3 e4 e5 e6
    clear o9 b9 J9
    go_wp2_with fail
    clear e0 e1 e2 e3 e4 e5 e6
    refine (show Calls Tryd.prog _ #[_, .agg #[.int .i64 1, .int .i64 1, .int .i64 1, .int .i64 0, .int .i64 0, .int .i64 0, .string ⟨#[97, 61]⟩]] w9 _ from S9.out.go gB (by decide) (by omega)).mono ?_
    rw [bg3.1, bg3.2]
    rintro x w10 ⟨F10, rfl, s10, -, -⟩
    have S10 := Lib.hid s10
    clear s10
    go_wp2_with fail
    refine (Get_c w10 g F10 3 [] S10.out.tb ⟨#[97]⟩ one_key).mono ?_
    rintro x w11 ⟨rfl, b11⟩
    have S11 := Lib.hid (S10.out.past b11)
    clear b11
    simp only [PTab.get, Option.getD_none, Option.isSome_none]
    have h1 : ((⟨#[98, 61, 99]⟩ : ByteArray).toList == [98, 61, 99]) = true := by rw [Lib.toList_data]; rfl
    go_wp2_with fail
    refine (Sum_t w11 g F10 3 [] S11.out.tb (by omega) (S11.out.tab HT.out)).mono ?_
    rw [sum_nil]
    rintro x w12 ⟨rfl, b12⟩
    go_wp2_with fail
    go_ret
    exact ⟨rfl, (S11.out.past b12).bel⟩
  · as_aux_lemma =>
    have N23 := Lib.hid (show w1.heap.size ≠ w1.heap.size + 1 + 1 by omega)
    have N24 := Lib.hid (show w1.heap.size ≠ w1.heap.size + 1 by omega)
    have N34 := Lib.hid (show w1.heap.size + 1 + 1 ≠ w1.heap.size + 1 by omega)
    have L2 := Lib.hid (show w.heap.size ≤ w1.heap.size from LW.out)
    have L3 := Lib.hid (show w.heap.size ≤ w1.heap.size + 1 + 1 by have := LW.out; omega)
    have L4 := Lib.hid (show w.heap.size ≤ w1.heap.size + 1 by have := LW.out; omega)
    generalize (((w1.alloc (.cells #[.int .i64 1, .int .i64 1, .int .i64 1, .int .i64 0, .int .i64 0, .int .i64 0, .string ⟨#[]⟩] 32)).alloc (.cells #[.int .i64 1, .int .i64 1, .int .i64 1, .int .i64 0, .int .i64 0, .int .i64 0, .string ⟨#[]⟩] 32)).alloc (.cells #[.int .i64 1, .int .i64 1, .int .i64 1, .int .i64 0, .int .i64 0, .int .i64 0, .string ⟨#[]⟩] 32)).drew = w2 at *
    have K2 : Hid (Blk w2 w1.heap.size 32 (ecs e0)) := kA
    have K3 : Hid (Blk w2 (w1.heap.size + 1 + 1) 32 (ecs e0)) := KC
    have K4 : Hid (Blk w2 (w1.heap.size + 1) 32 (ecs e0)) := KB
    clear kA KB KC LW
    generalize w1.heap.size + 1 + 1 = k3 at *
    generalize w1.heap.size + 1 = k4 at *
    generalize w1.heap.size = k2 at *
    obtain ⟨g, hg⟩ : ∃ g, w.heap.size = g := ⟨_, rfl⟩
    have F2 := Lib.hid (SX.out.tb.ne K2.out (by decide))
    have F3 := Lib.hid (SX.out.tb.ne K3.out (by decide))
    have F4 := Lib.hid (SX.out.tb.ne K4.out (by decide))
    have c2 := K2.out.cell (i := 6) rfl
    have f2 := K2.out.free 6
    have d3 := K3.out.cell (i := 6) rfl
    have h3 := K3.out.free 6
    have d4 := K4.out.cell (i := 6) rfl
    have h4 := K4.out.free 6
    have n1 := N23.out
    have n2 := N24.out
    have n3 := N34.out
    have n4 := N23.out.symm
    have n5 := N24.out.symm
    have n6 := N34.out.symm
    have H2 := Lib.hid (show Blk (w2.setCell ⟨k2, 6, none⟩ (.string eB.data)) k2 32 (ecs eB) from K2.out.set 6 (.string eB.data))
    have H3 := Lib.hid (K3.out.far (grown_set w2 k2 6 (.string eB.data)) N23.out.symm)
    have H4 := Lib.hid (K4.out.far (grown_set w2 k2 6 (.string eB.data)) N24.out.symm)
    have t2 := Touch.of_grown (grown_set w2 k2 6 (.string eB.data))
    have c3 := H3.out.cell (i := 6) rfl
    have f3 := H3.out.free 6
    have I2 := Lib.hid (H2.out.far (grown_set _ k3 6 (.string fB.data)) N23.out)
    have I3 := Lib.hid (show Blk ((w2.setCell ⟨k2, 6, none⟩ (.string eB.data)).setCell ⟨k3, 6, none⟩ (.string fB.data)) k3 32 (ecs fB) from H3.out.set 6 (.string fB.data))
    have I4 := Lib.hid (H4.out.far (grown_set _ k3 6 (.string fB.data)) N34.out.symm)
    have t3 := Touch.of_grown (grown_set (w2.setCell ⟨k2, 6, none⟩ (.string eB.data)) k3 6 (.string fB.data))
    have c4 := I4.out.cell (i := 6) rfl
    have f4 := I4.out.free 6
    have J2 := Lib.hid (I2.out.far (grown_set _ k4 6 (.string gB.data)) N24.out)
    have J3 := Lib.hid (I3.out.far (grown_set _ k4 6 (.string gB.data)) N34.out)
    have J4 := Lib.hid (show Blk (((w2.setCell ⟨k2, 6, none⟩ (.string eB.data)).setCell ⟨k3, 6, none⟩ (.string fB.data)).setCell ⟨k4, 6, none⟩ (.string gB.data)) k4 32 (ecs gB) from I4.out.set 6 (.string gB.data))
    have t4 := Touch.of_grown (grown_set ((w2.setCell ⟨k2, 6, none⟩ (.string eB.data)).setCell ⟨k3, 6, none⟩ (.string fB.data)) k4 6 (.string gB.data))
    have SY := Lib.hid (((SX.out.touch t2 (fun k hk => by rw [List.mem_singleton.1 hk]; exact ⟨F2.out, L2.out⟩)).touch t3 (fun k hk => by rw [List.mem_singleton.1 hk]; exact ⟨F3.out, L3.out⟩)).touch t4 (fun k hk => by rw [List.mem_singleton.1 hk]; exact ⟨F4.out, L4.out⟩))
    clear t2 t3 t4 H2 H3 H4 I2 I3 I4 K2 K3 K4 SX
    simp only [eB, fB, gB] at c2 f2 c3 f3 c4 f4 J2 J3 J4 SY
    rw [hg] at SY F2 F3 F4 ⊢
    go_wp2_with fail
    clear c2 f2 c3 f3 c4 f4 d3 h3 d4 h4 n1 n2 n3 n4 n5 n6
    generalize (((w2.setCell ⟨k2, 6, none⟩ (.string ⟨#[97, 61, 98, 61, 99]⟩)).setCell ⟨k3, 6, none⟩ (.string ⟨#[61, 120]⟩)).setCell ⟨k4, 6, none⟩ (.string ⟨#[97, 61]⟩)) = w3 at *
    have J2 : Hid (Blk w3.drew k2 32 (ecs eB)) := J2
    have J3 : Hid (Blk w3.drew k3 32 (ecs fB)) := J3
    have J4 : Hid (Blk w3.drew k4 32 (ecs gB)) := J4
    have SZ := Lib.hid SY.out.drew
    clear SY
    refine Hs.begin [g] ?_
    refine Hs.take (v := .pointer (some ⟨g, 0, none⟩)) 0 22 rfl ?_ (fun _ _ => rfl)
    refine Hs.take (v := ev eB) 1 23 rfl ?_ (fun w' hw' => run_loadE ((J2.out.touch hw' F2.out).range) rfl)
    refine Hs.take (v := .pointer (some ⟨g, 0, none⟩)) 3 25 rfl ?_ (fun _ _ => rfl)
    refine Hs.take (v := ev fB) 4 26 rfl ?_ (fun w' hw' => run_loadE ((J3.out.touch hw' F3.out).range) rfl)
    refine Hs.callW (f := 11) (args := #[.pointer (some ⟨g, 0, none⟩), ev eB]) 2 24 rfl ?_ (run_callf Tryd.func11 (by kernel_rfl) (by kernel_rfl) (by simp only [List.map_toArray, List.map_cons, List.map_nil]; rfl))
    refine (SZ.out.go eB (by decide) (by omega)).mono ?_
    rw [bg1.1, bg1.2]
    rintro x w6 ⟨F6, rfl, s6, f6, t6⟩
    have S6 := Lib.hid s6
    have J4 := Lib.hid (show Blk w6 k4 32 (ecs gB) from J4.out.touch t6 F4.out)
    have G4 := Lib.hid (S6.out.tb.ne J4.out (by decide))
    refine ⟨.bool true, _, F6, rfl, (by simp only [Act.put, List.setIfInBounds_toArray, List.set_cons_succ, List.set_cons_zero]; rfl), t6, f6, ?_⟩
    clear s6 f6 t6
    refine Hs.call (f := 11) (args := #[.pointer (some ⟨g, 0, none⟩), ev fB]) 5 27 rfl ?_ (run_callf Tryd.func11 (by kernel_rfl) (by kernel_rfl) (by simp only [List.map_toArray, List.map_cons, List.map_nil]; rfl))
    refine (S6.out.go fB (by decide) (by omega)).mono ?_
    rw [bg2.1, bg2.2]
    rintro x w7 ⟨F7, rfl, s7, f7, t7⟩
    have S7 := Lib.hid s7
    have J4 := Lib.hid (show Blk w7 k4 32 (ecs gB) from J4.out.touch t7 G4.out)
    refine Hs.back (v := .bool false) t7 ?_
    clear s7 f7 t7
    refine Hs.take (v := .bool true) 6 5 rfl ?_ (fun _ _ => rfl)
    refine Hs.take (v := .bool false) 7 6 rfl ?_ (fun _ _ => rfl)
    refine Hs.done ?_
    clear J2 J3
    go_wp2_with fail
    refine (Get_c w7 g F7 2 [pB] S7.out.tb ⟨#[97]⟩ one_key).mono ?_
    rw [bg4]
    rintro x w8 ⟨rfl, b8⟩
    have S8 := Lib.hid (S7.out.past b8)
    have J8 := Lib.hid (J4.out.past b8)
    clear b8
    go_wp2_with fail
    refine (Names_c w8 g F7 2 [pB] S8.out.tb (by omega)).mono ?_
    rintro x w9 ⟨A9, c9, rfl, o9, -, b9⟩
    have S9 := Lib.hid (S8.out.past b9)
    have J9 := J8.out.past b9
    have e0 := J9.cell (i := 0) rfl
    have e1 := J9.cell (i := 1) rfl
    have e2 := J9.cell (i := 2) rfl
    have e3 := J9.cell (i := 3) rfl
    have e4 := J9.cell (i := 4) rfl
    have e5 := J9.cell (i := 5) rfl
    have e6 := J9.cell (i := 6) rfl
    simp only [gB] at e0 e1 e2 e3 e4 e5 e6
    clear o9 b9 J9
    go_wp2_with fail
    clear e0 e1 e2 e3 e4 e5 e6
    refine (show Calls Tryd.prog _ #[_, .agg #[.int .i64 1, .int .i64 1, .int .i64 1, .int .i64 0, .int .i64 0, .int .i64 0, .string ⟨#[97, 61]⟩]] w9 _ from S9.out.go gB (by decide) (by omega)).mono ?_
    rw [bg3.1, bg3.2]
    rintro x w10 ⟨F10, rfl, s10, -, -⟩
    have S10 := Lib.hid s10
    clear s10
    go_wp2_with fail
    refine (Get_c w10 g F10 3 [] S10.out.tb ⟨#[97]⟩ one_key).mono ?_
    rintro x w11 ⟨rfl, b11⟩
    have S11 := Lib.hid (S10.out.past b11)
    clear b11
    simp only [PTab.get, Option.getD_none, Option.isSome_none]
    have h1 : ((⟨#[98, 61, 99]⟩ : ByteArray).toList == [98, 61, 99]) = true := by rw [Lib.toList_data]; rfl
    go_wp2_with fail
    refine (Sum_t w11 g F10 3 [] S11.out.tb (by omega) (S11.out.tab HT.out)).mono ?_
    rw [sum_nil]
    rintro x w12 ⟨rfl, b12⟩
    go_wp2_with fail
    go_ret
    exact ⟨rfl, (S11.out.past b12).bel⟩
end Go.Proofs.YtapleleaogjcjaaDoor
