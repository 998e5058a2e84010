/- Package pending: Add. -/
import Derived.Test.YtacipjdaiglnjaaGreatDoorSeg8
import Derived.Test.YtacipjdaiglnjaaGreatDoorSeg3
import Derived.Test.YtacipjdaiglnjaaGreatDoorSeg4
import Derived.Test.YtacipjdaiglnjaaGreatDoorSeg18
namespace Go.Proofs.YtacipjdaiglnjaaGreatDoor
open Go.RowKit PPend

theorem run_loadPi {w : World} {dst : Option Tmp} {x : Operand} {ty : TypeId} {pos : String} {after : Array Edge} {guard : Option (Nat × Bool)} {ρ : Operand → Value} {p : Addr} {k : Int}
    (h : w.cell? p = some (.int .i64 k)) (hx : ρ x = .pointer (some p)) : (execOp ρ { dst, op := .load 3 x, type := ty, pos, after, guard }).run Tryz.prog w = .ok (.value (.int .i64 k)) w := by
  go_simp
theorem run_allocE {w : World} {dst : Option Tmp} {ty : TypeId} {pos : String} {after : Array Edge} {guard : Option (Nat × Bool)} {ρ : Operand → Value} :
    (execOp ρ { dst, op := .alloc 93, type := ty, pos, after, guard }).run Tryz.prog w = .ok (.value (.pointer (some ⟨w.heap.size, 0, none⟩))) (w.alloc (.cells #[.int .i64 0, .int .i64 0, .int .i64 0, .int .i64 0, .int .i64 0, .int .i64 0, .string ⟨#[]⟩] 93)) := by
  have hz : (zeroValue 93).run Tryz.prog w = .ok (.agg #[.int .i64 0, .int .i64 0, .int .i64 0, .int .i64 0, .int .i64 0, .int .i64 0, .string ⟨#[]⟩]) w := by kernel_rfl
  go_simp
/-- What Add answers and leaves. -/
def AddPost (w : World) (g : Nat) (fr boot seq : Int) (L : List Ent) (e : Ent) (x : Ending) (w' : World) : Prop :=
  (PEnt.may e = false ∧ x = .returned (.tuple #[ev zeroE, .int .i64 1]) ∧ Below w.heap.size w w') ∨
  (PEnt.may e = true ∧ L.length = 4 ∧ x = .returned (.tuple #[ev zeroE, .int .i64 9]) ∧ Below w.heap.size w w') ∨
  (PEnt.may e = true ∧ L.length < 4 ∧ x = .returned (.tuple #[ev e, .int .i64 0]) ∧ Pn w' g fr boot (seq + 1) (L ++ [e]) ∧ Touch [g] w w')
set_option maxHeartbeats 8000000 in
set_option maxRecDepth 100000 in
theorem padd_c (w : World) (g : Nat) (fr boot seq : Int) (L : List Ent) (h : Pn w g fr boot seq L) (ord lev : Int) (d : ByteArray) (h0 : 0 ≤ seq) (h1 : seq ≤ 1099511627776) (e : Ent) (he : nxt fr boot seq ord lev d = e) :
    Calls Tryz.prog 73 #[.pointer (some ⟨g, 0, none⟩), .int .i64 ord, .int .i64 lev, .string d] w (AddPost w g fr boot seq L e) := by
  have hf := h.few
  obtain ⟨Z, hl, hB⟩ := h
  have HB := Lib.hid (hB.alloc (.cells #[.int .i64 0, .int .i64 0, .int .i64 0, .int .i64 0, .int .i64 0, .int .i64 0, .string ⟨#[]⟩] 93))
  have hK8 : Blk (w.alloc (.cells #[.int .i64 0, .int .i64 0, .int .i64 0, .int .i64 0, .int .i64 0, .int .i64 0, .string ⟨#[]⟩] 93)) w.heap.size 93 (ecs zeroE) := Blk.newEnt w 93 zeroE
  have K8 := Lib.hid hK8
  have BW := Lib.hid ((Below.refl w.heap.size w).alloc (Nat.le_refl _) (.cells #[.int .i64 0, .int .i64 0, .int .i64 0, .int .i64 0, .int .i64 0, .int .i64 0, .string ⟨#[]⟩] 93))
  have hgk : g < w.heap.size := hB.lt
  have HL := Lib.hid hl
  have HE := Lib.hid he
  have ES := Lib.hid (show e.seq = seq + 1 by rw [← he]; rfl)
  clear hB hK8 hl he
  go_enter Tryz.func73, Tryz.ntmps73
  go_wp2_with fail
  have hk8 : w.heap.size < (w.alloc (.cells #[.int .i64 0, .int .i64 0, .int .i64 0, .int .i64 0, .int .i64 0, .int .i64 0, .string ⟨#[]⟩] 93)).heap.size := K8.out.lt
  generalize hk : w.heap.size = k8 at *
  have HK := Lib.hid hk
  clear hk
  generalize hw1 : w.alloc (.cells #[.int .i64 0, .int .i64 0, .int .i64 0, .int .i64 0, .int .i64 0, .int .i64 0, .string ⟨#[]⟩] 93) = w1 at *
  clear hw1
  have hg1 : g < w1.heap.size := HB.out.lt
-- REGION (*curfew/pending.Pending).Add 3 pnadd3 2
  refine Hs.begin ([w1.heap.size]) ?_
  refine Hs.take (v := .pointer (some ⟨g, 0, none⟩)) 0 14 rfl ?_ (fun _ _ => rfl)
  refine Hs.take (v := .pointer (some ⟨g, 0, none⟩)) 1 15 rfl ?_ (fun w' hw' => by go_simp; first | done | rfl | (simp; omega))
  refine Hs.take (v := .pointer (some ⟨g, 0, none⟩)) 2 16 rfl ?_ (fun w' hw' => by go_simp; first | done | rfl | (simp; omega))
  refine Hs.take (v := .int .i64 fr) 3 17 rfl ?_ (fun w' hw' => by exact run_loadPi ((HB.out.drew.touch hw' (by rw [List.mem_singleton]; exact Nat.ne_of_lt hg1)).cell pncs_fr) rfl)
  refine Hs.take (v := .pointer (some ⟨g, 0, none⟩)) 4 18 rfl ?_ (fun _ _ => rfl)
  refine Hs.take (v := .pointer (some ⟨g, 0, none⟩)) 5 19 rfl ?_ (fun w' hw' => by go_simp; first | done | rfl | (simp; omega))
  refine Hs.take (v := .pointer (some ⟨g, 1, none⟩)) 6 20 rfl ?_ (fun w' hw' => by go_simp; first | done | rfl | (simp; omega))
  refine Hs.take (v := .int .i64 boot) 7 21 rfl ?_ (fun w' hw' => by exact run_loadI ((HB.out.drew.touch hw' (by rw [List.mem_singleton]; exact Nat.ne_of_lt hg1)).cell pncs_boot) rfl)
  refine Hs.take (v := .pointer (some ⟨g, 0, none⟩)) 8 22 rfl ?_ (fun _ _ => rfl)
  refine Hs.take (v := .pointer (some ⟨g, 0, none⟩)) 9 23 rfl ?_ (fun w' hw' => by go_simp; first | done | rfl | (simp; omega))
  refine Hs.take (v := .pointer (some ⟨g, 2, none⟩)) 10 24 rfl ?_ (fun w' hw' => by go_simp; first | done | rfl | (simp; omega))
  refine Hs.take (v := .int .i64 seq) 11 25 rfl ?_ (fun w' hw' => by exact run_loadI ((HB.out.drew.touch hw' (by rw [List.mem_singleton]; exact Nat.ne_of_lt hg1)).cell pncs_seq) rfl)
  refine Hs.take (v := .int .i64 (seq + 1)) 12 26 rfl ?_ (fun w' hw' => by go_simp; first | done | rfl | omega | exact wrap_in (by omega) (by omega) | exact Int.tmod_eq_emod_of_nonneg (by omega) | exact Int.tdiv_eq_ediv_of_nonneg (by omega) | (simp; omega))
  refine Hs.take (v := .int .i64 ord) 13 27 rfl ?_ (fun _ _ => rfl)
  refine Hs.take (v := .int .i64 lev) 14 28 rfl ?_ (fun _ _ => rfl)
  refine Hs.take (v := .string d) 15 29 rfl ?_ (fun _ _ => rfl)
  refine Hs.take (v := .agg #[.int .i64 fr, .int .i64 boot, .int .i64 (seq + 1), .int .i64 ord, .int .i64 lev, .int .i64 0, .string d]) 16 30 rfl ?_ (fun w' hw' => by go_simp; first | done | rfl | omega | exact wrap_in (by omega) (by omega) | exact Int.tmod_eq_emod_of_nonneg (by omega) | exact Int.tdiv_eq_ediv_of_nonneg (by omega) | (simp; omega))
  refine Hs.only 17 (some 10) rfl ?_
  refine wpList_runTo' rfl (.pointer (some ⟨w1.heap.size, 0, none⟩)) _ run_allocE ?_
  refine Hs.next (.of_below ((Below.refl _ _).alloc (Nat.le_refl _) _)) ?_
  refine Hs.only 18 none rfl ?_
  refine wpList_store_row rfl 93 (.tmp 10) _ rfl w1.heap.size _ rfl rfl _ _ (Blk.newEnt w1.drew 93 zeroE) (by kernel_rfl) (by rfl) (by kernel_rfl) ?_
  refine Hs.next (w' := (w1.drew.alloc (.cells #[.int .i64 0, .int .i64 0, .int .i64 0, .int .i64 0, .int .i64 0, .int .i64 0, .string ⟨#[]⟩] 93)).setRow w1.heap.size #[.int .i64 fr, .int .i64 boot, .int .i64 (seq + 1), .int .i64 ord, .int .i64 lev, .int .i64 0, .string d]) (.of_grown (grown_row _ _ _)) ?_
  refine Hs.done ?_
-- END
  have K10 : Blk ((w1.drew.alloc (.cells #[.int .i64 0, .int .i64 0, .int .i64 0, .int .i64 0, .int .i64 0, .int .i64 0, .string ⟨#[]⟩] 93)).setRow w1.heap.size #[.int .i64 fr, .int .i64 boot, .int .i64 (seq + 1), .int .i64 ord, .int .i64 lev, .int .i64 0, .string d]) w1.heap.size 93 (ecs e) := by
    rw [← HE.out]; exact (Blk.newEnt w1.drew 93 zeroE).row #[.int .i64 fr, .int .i64 boot, .int .i64 (seq + 1), .int .i64 ord, .int .i64 lev, .int .i64 0, .string d]
  have T3 : Touch [w1.heap.size] w1 ((w1.drew.alloc (.cells #[.int .i64 0, .int .i64 0, .int .i64 0, .int .i64 0, .int .i64 0, .int .i64 0, .string ⟨#[]⟩] 93)).setRow w1.heap.size #[.int .i64 fr, .int .i64 boot, .int .i64 (seq + 1), .int .i64 ord, .int .i64 lev, .int .i64 0, .string d]) := ((Touch.refl _ w1).drew.alloc _).trans (.of_grown (grown_row _ _ _))
  have B3' : Below w1.heap.size w1 ((w1.drew.alloc (.cells #[.int .i64 0, .int .i64 0, .int .i64 0, .int .i64 0, .int .i64 0, .int .i64 0, .string ⟨#[]⟩] 93)).setRow w1.heap.size #[.int .i64 fr, .int .i64 boot, .int .i64 (seq + 1), .int .i64 ord, .int .i64 lev, .int .i64 0, .string d]) := T3.below (by simp) (Nat.le_refl _)
  have B3 := Lib.hid B3'
  have E3 := Lib.hid K10
  have hkg : w1.heap.size ≠ g := Nat.ne_of_gt hg1
  clear T3 B3' K10
  generalize hw3 : (w1.drew.alloc (.cells #[.int .i64 0, .int .i64 0, .int .i64 0, .int .i64 0, .int .i64 0, .int .i64 0, .string ⟨#[]⟩] 93)).setRow w1.heap.size #[.int .i64 fr, .int .i64 boot, .int .i64 (seq + 1), .int .i64 ord, .int .i64 lev, .int .i64 0, .string d] = w3 at *
  clear hw3
  have P3 := Lib.hid (HB.out.past B3.out)
  have Z3 := Lib.hid (K8.out.past B3.out)
  have W3 := Lib.hid (BW.out.trans (B3.out.mono (Nat.le_of_lt hk8)))
  clear HB K8 BW B3 hk8
  obtain ⟨k10, hk10⟩ : ∃ k, w1.heap.size = k := ⟨_, rfl⟩
  rw [hk10] at E3 hkg hg1 ⊢
  clear hk10
  obtain ⟨d0, d1, d2, d3, d4, d5, d6⟩ := E3.out.ent
  go_wp2_with fail
  clear d0 d1 d2 d3 d4 d5 d6
  refine (May_c w3 e).mono ?_
  cases hm : PEnt.may e
  · have HM := Lib.hid hm
    clear hm
    rintro x w4 ⟨rfl, b4⟩
    have hZ := Z3.out.past b4
    have Z5 := Lib.hid (hZ.row #[.int .i64 0, .int .i64 0, .int .i64 0, .int .i64 0, .int .i64 0, .int .i64 0, .string ⟨#[]⟩])
    have W4 := Lib.hid (W3.out.trans (b4.mono (by rw [← HK.out]; exact W3.out.size)))
    have W5 := Lib.hid (W4.out.trans (grown_below (grown_row w4 k8 #[.int .i64 0, .int .i64 0, .int .i64 0, .int .i64 0, .int .i64 0, .int .i64 0, .string ⟨#[]⟩]) (Nat.le_refl _) (by rw [← HK.out]; exact W4.out.size)))
    clear b4
    go_wp2_with ((with_reducible show wpList _ _ _ ((⟨none, Op.store 93 (.tmp 8) _, _, _, _, _⟩ : Oper) :: _) _ _); go_must (refine wpList_store_row rfl 93 (.tmp 8) _ rfl k8 _ rfl rfl _ _ hZ (by kernel_rfl) (by rfl) (by kernel_rfl) ?_))
    refine bodyPost_ret (v := .tuple #[ev zeroE, .int .i64 1]) (results_rowB (p := 8) (u := 9) rfl _ _ k8 _ _ _ _ rfl rfl Z5.out Tryz.underlying93 rfl (by kernel_rfl)) rfl (.inl ⟨HM.out, rfl, by rw [HK.out]; exact W5.out⟩)
  · have HM := Lib.hid hm
    clear hm
    rintro x w4 ⟨rfl, b4⟩
    have P4 := Lib.hid (P3.out.past b4)
    have Z4 := Lib.hid (Z3.out.past b4)
    have K4 := Lib.hid (E3.out.past b4)
    have W4 := Lib.hid (W3.out.trans (b4.mono (by rw [← HK.out]; exact W3.out.size)))
    have c31 := P4.out.cell (pncs_n HL.out)
    clear b4
    rcases (by omega : L.length = 4 ∨ L.length < 4) with hn | hn
    · have hZ := Z4.out
      have Z5 := Lib.hid (hZ.row #[.int .i64 0, .int .i64 0, .int .i64 0, .int .i64 0, .int .i64 0, .int .i64 0, .string ⟨#[]⟩])
      have W5 := Lib.hid (W4.out.trans (grown_below (grown_row w4 k8 #[.int .i64 0, .int .i64 0, .int .i64 0, .int .i64 0, .int .i64 0, .int .i64 0, .string ⟨#[]⟩]) (Nat.le_refl _) (by rw [← HK.out]; exact W4.out.size)))
      have HN := Lib.hid hn
      have hn' : (L.length : Int) = 4 := by omega
      rw [hn'] at c31
      clear hn hn'
      go_wp2_with ((with_reducible show wpList _ _ _ ((⟨none, Op.store 93 (.tmp 8) _, _, _, _, _⟩ : Oper) :: _) _ _); go_must (refine wpList_store_row rfl 93 (.tmp 8) _ rfl k8 _ rfl rfl _ _ hZ (by kernel_rfl) (by rfl) (by kernel_rfl) ?_))
      refine bodyPost_ret (v := .tuple #[ev zeroE, .int .i64 9]) (results_rowB (p := 8) (u := 9) rfl _ _ k8 _ _ _ _ rfl rfl Z5.out Tryz.underlying93 rfl (by kernel_rfl)) rfl (.inr (.inl ⟨HM.out, HN.out, rfl, by rw [HK.out]; exact W5.out⟩))
    · have hn4 : (L.length : Int) ≠ 4 := by omega
      go_wp2_with fail
      have TH := Lib.hid (show w4.drew.there g (3 + L.length * 7) 7 from (show Blk w4.drew g 138 ([.int .i64 fr, .int .i64 boot, .int .i64 seq] ++ (els (L ++ Z) ++ [.int .i64 L.length])) from P4.out.drew).entThere rfl (by rw [HL.out]; omega))
-- REGION (*curfew/pending.Pending).Add 8 pnadd8 6
      refine Hs.begin ([g]) ?_
      refine Hs.take (v := .pointer (some ⟨g, 0, none⟩)) 0 41 rfl ?_ (fun _ _ => rfl)
      refine Hs.take (v := .pointer (some ⟨g, 0, none⟩)) 1 42 rfl ?_ (fun _ _ => rfl)
      refine Hs.take (v := .pointer (some ⟨g, 0, none⟩)) 2 43 rfl ?_ (fun w' hw' => by go_simp; first | done | rfl | (simp; omega))
      refine Hs.take (v := .pointer (some ⟨g, 31, none⟩)) 3 44 rfl ?_ (fun w' hw' => by go_simp; first | done | rfl | (simp; omega))
      refine Hs.take (v := ev e) 5 46 rfl ?_ (fun w' hw' => by exact run_loadE ((K4.out.drew.touch hw' (by rw [List.mem_singleton]; exact hkg)).range) rfl)
      refine Hs.take (v := .pointer (some ⟨g, 0, none⟩)) 6 47 rfl ?_ (fun w' hw' => by go_simp; first | done | rfl | (simp; omega))
      refine Hs.take (v := .pointer (some ⟨g, 3, none⟩)) 7 48 rfl ?_ (fun w' hw' => by go_simp; first | done | rfl | (simp; omega))
      refine Hs.only 4 (some 45) rfl ?_
      refine wpList_runTo' rfl (.int .i64 (L.length : Int)) _ (run_loadPi (P4.out.drew.cell (pncs_n HL.out)) rfl) ?_
      refine Hs.next (Touch.refl _ _) ?_
      refine Hs.take (v := .pointer (some ⟨g, 3 + L.length * 7, none⟩)) 8 49 rfl ?_ (fun w' hw' => by go_simp; first | done | rfl | omega | exact wrap_in (by omega) (by omega) | exact Int.tmod_eq_emod_of_nonneg (by omega) | exact Int.tdiv_eq_ediv_of_nonneg (by omega) | (simp; omega))
      refine Hs.only 9 none rfl ?_
      refine wpList_store_mid rfl 93 (.tmp 49) (.tmp 46) rfl g (3 + L.length * 7) (ecs e).toArray rfl rfl TH.out (by kernel_rfl) (all_oneCell_toArray (ecs_one _)) ?_
      refine Hs.next (w' := w4.drew.setCells g (3 + L.length * 7) (ecs e)) (grown_cells _ _ _ _) ?_
      refine Hs.done ?_
-- END
      have hlt : L.length < (L ++ Z).length := by rw [HL.out]; exact hn
      have P6 := Lib.hid (show Blk (w4.drew.setCells g (3 + L.length * 7) (ecs e)) g 138 (pncs fr boot seq ((L ++ Z).set L.length e) L.length) from
        (show Blk w4.drew g 138 ([.int .i64 fr, .int .i64 boot, .int .i64 seq] ++ (els (L ++ Z) ++ [.int .i64 L.length])) from P4.out.drew).entSet rfl hlt e)
      have K6 := Lib.hid (K4.out.drew.touch (grown_cells w4.drew g (ecs e) (3 + L.length * 7)) (by rw [List.mem_singleton]; exact hkg))
      have hk8g : k8 ≠ g := Nat.ne_of_gt hgk
      have Z6 := Lib.hid (Z4.out.drew.touch (grown_cells w4.drew g (ecs e) (3 + L.length * 7)) (by rw [List.mem_singleton]; exact hk8g))
      have T6 := Lib.hid (show Touch [g] w (w4.drew.setCells g (3 + L.length * 7) (ecs e)) from (Touch.of_below (show Below w.heap.size w w4 from by rw [HK.out]; exact W4.out)).drew.trans (grown_cells w4.drew g (ecs e) (3 + L.length * 7)))
      have SET := Lib.hid (show (L ++ Z).set L.length e = (L ++ [e]) ++ Z.tail from by
        cases Z with
        | nil => rw [List.append_nil] at hlt; omega
        | cons z Z => simp)
      have LZ := Lib.hid (show ((L ++ Z).set L.length e).length = 4 by rw [List.length_set]; exact HL.out)
      clear P4 Z4 K4 W4 TH c31 hlt
      generalize hw6 : w4.drew.setCells g (3 + L.length * 7) (ecs e) = w6 at *
      clear hw6
      have c31 := P6.out.cell (pncs_n LZ.out)
      have f31 := P6.out.free 31
      have P7 := Lib.hid (show Blk (w6.setCell ⟨g, 31, none⟩ (.int .i64 ((L.length : Int) + 1))) g 138 (pncs fr boot seq ((L ++ Z).set L.length e) (L.length + 1)) from by
        have := P6.out.set 31 (.int .i64 ((L.length + 1 : Nat) : Int))
        rw [pnset_n LZ.out] at this
        exact this)
      have K7 := Lib.hid (K6.out.touch (.of_grown (grown_set w6 g 31 (.int .i64 ((L.length : Int) + 1)))) (by rw [List.mem_singleton]; exact hkg))
      have Z7 := Lib.hid (Z6.out.touch (.of_grown (grown_set w6 g 31 (.int .i64 ((L.length : Int) + 1)))) (by rw [List.mem_singleton]; exact hk8g))
      have T7 := Lib.hid (T6.out.trans (.of_grown (grown_set w6 g 31 (.int .i64 ((L.length : Int) + 1)))))
      have c2 := P7.out.cell pncs_seq
      have f2 := P7.out.free 2
      have d2 := K7.out.cell (i := 2) rfl
      have P8 := Lib.hid (show Blk ((w6.setCell ⟨g, 31, none⟩ (.int .i64 ((L.length : Int) + 1))).setCell ⟨g, 2, none⟩ (.int .i64 e.seq)) g 138 (pncs fr boot e.seq ((L ++ Z).set L.length e) (L.length + 1)) from P7.out.set 2 (.int .i64 e.seq))
      have K8 := Lib.hid (K7.out.touch (.of_grown (grown_set _ g 2 (.int .i64 e.seq))) (by rw [List.mem_singleton]; exact hkg))
      have hZ := Z7.out.touch (.of_grown (grown_set _ g 2 (.int .i64 e.seq))) (by rw [List.mem_singleton]; exact hk8g)
      have T8 := Lib.hid (T7.out.trans (.of_grown (grown_set _ g 2 (.int .i64 e.seq))))
      obtain ⟨e0, e1, e2, e3, e4, e5, e6⟩ := K8.out.ent
      clear P6 K6 Z6 T6 P7 K7 Z7 T7 LZ
      have Z9 := Lib.hid (hZ.row #[.int .i64 e.fr, .int .i64 e.boot, .int .i64 e.seq, .int .i64 e.ord, .int .i64 e.lev, .int .i64 e.stamp, .string e.data])
      have P9 := Lib.hid (P8.out.far (grown_row _ k8 #[.int .i64 e.fr, .int .i64 e.boot, .int .i64 e.seq, .int .i64 e.ord, .int .i64 e.lev, .int .i64 e.stamp, .string e.data]) hk8g.symm)
      have T9 := Lib.hid ((T8.out.wide (S' := [g, k8]) (by simp)).trans ((Touch.of_grown (grown_row _ k8 #[.int .i64 e.fr, .int .i64 e.boot, .int .i64 e.seq, .int .i64 e.ord, .int .i64 e.lev, .int .i64 e.stamp, .string e.data])).wide (by simp)))
      clear P8 K8 T8
      go_wp2_with ((with_reducible show wpList _ _ _ ((⟨none, Op.store 93 (.tmp 8) _, _, _, _, _⟩ : Oper) :: _) _ _); go_must (refine wpList_store_row rfl 93 (.tmp 8) _ rfl k8 _ rfl rfl _ _ hZ (by kernel_rfl) (by rfl) (by kernel_rfl) ?_))
      refine bodyPost_ret (v := .tuple #[ev e, .int .i64 0]) (results_rowB (p := 8) (u := 9) rfl _ _ k8 _ _ _ _ rfl rfl Z9.out Tryz.underlying93 rfl (by kernel_rfl)) rfl (.inr (.inr ⟨HM.out, hn, rfl, ⟨Z.tail, ?_, ?_⟩, ?_⟩))
      · rw [← SET.out, List.length_set]; exact HL.out
      · rw [← SET.out, ← ES.out, List.length_append]; exact P9.out
      · exact ⟨T9.out.os, T9.out.tape, T9.out.output, T9.out.size, fun k hk hs => T9.out.block k hk (by
          have := HK.out
          simp only [List.mem_cons, List.not_mem_nil, or_false, not_or] at hs ⊢
          exact ⟨hs, by omega⟩)⟩
end Go.Proofs.YtacipjdaiglnjaaGreatDoor

/- What a process is asked (Log, Told, Good, Waits, Commit), whatever its log is; Cast. -/
namespace Go.Proofs.YtacipjdaiglnjaaGreatDoor
open Go.RowKit PNode

section
variable {w : World} {x d : Nat} {F : List Nat} {p : Np} (h : Nd w x d F p)
include h

theorem ndLogG : Calls Tryz.prog 17 #[.pointer (some ⟨x, 0, none⟩)] w fun e w' => ∃ A c, e = .returned (.slice A p.L.length c) ∧ Ow w' w.heap.size 93 7 A p.L.length c (els p.L) ∧ Below w.heap.size w w' := by
  obtain ⟨a, s0, -⟩ := h.open
  have B0 : Blk w x 79 (ncs d p a) := s0.sep.get (i := 0) rfl
  have L0 : Lg w a.lg a.FL p.L := s0.sep.get (i := 2) rfl
  have c : w.cell? ⟨x, 9, none⟩ = some (.pointer (some ⟨a.lg, 0, none⟩)) := B0.cell rfl
  have HL := Lib.hid L0
  clear h s0 B0 L0
  go_enter Tryz.func17, Tryz.ntmps17
  go_wp2_with fail
  refine (From_all HL.out).mono ?_
  rintro e w1 ⟨A, c, rfl, o1, b1⟩
  have b1' := Lib.hid b1
  have O1 := Lib.hid o1
  clear b1 o1
  go_wp2_with fail
  go_ret
  exact ⟨A, c, rfl, O1.out, b1'.out⟩

theorem ndToldG : Calls Tryz.prog 19 #[.pointer (some ⟨x, 0, none⟩)] w fun e w' => ∃ A c, e = .returned (.slice A p.T.length c) ∧ Ow w' w.heap.size 95 8 A p.T.length c (tls p.T) ∧ Below w.heap.size w w' := by
  obtain ⟨a, s0, -⟩ := h.open
  have B0 : Blk w x 79 (ncs d p a) := s0.sep.get (i := 0) rfl
  have R0 : Hid (Qu w a.rg a.FR p.T) := Lib.hid (s0.sep.get (i := 9) rfl)
  have c : w.cell? ⟨x, 18, none⟩ = some (.pointer (some ⟨a.rg, 0, none⟩)) := B0.cell rfl
  clear h s0 B0
  go_enter Tryz.func19, Tryz.ntmps19
  go_wp2_with fail
  refine (Told_c w a.rg a.FR p.T R0.out).mono ?_
  rintro e w1 ⟨A, c, rfl, o1, b1⟩
  have b1' := Lib.hid b1
  have O1 := Lib.hid (Ow.of_own o1)
  clear b1 o1
  go_wp2_with fail
  go_ret
  exact ⟨A, c, rfl, O1.out, b1'.out⟩

theorem ndCommit_c : Calls Tryz.prog 18 #[.pointer (some ⟨x, 0, none⟩)] w fun e w' => e = .returned (.int .i64 p.com) ∧ w = w' := by
  obtain ⟨a, s0, -⟩ := h.open
  have B0 : Blk w x 79 (ncs d p a) := s0.sep.get (i := 0) rfl
  have c : w.cell? ⟨x, 10, none⟩ = some (.int .i64 p.com) := B0.cell rfl
  clear h s0 B0
  go_enter Tryz.func18, Tryz.ntmps18
  go_wp2_with fail
  go_ret
  exact ⟨rfl, rfl⟩

theorem ndWaits_c : Calls Tryz.prog 20 #[.pointer (some ⟨x, 0, none⟩)] w fun e w' => e = .returned (.int .i64 p.pend.length) ∧ w = w' := by
  obtain ⟨a, s0, -⟩ := h.open
  have B0 : Blk w x 79 (ncs d p a) := s0.sep.get (i := 0) rfl
  have N0 : Hid (Pn w a.ng p.id p.boot p.seq p.pend) := Lib.hid (s0.sep.get (i := 8) rfl)
  have c : w.cell? ⟨x, 17, none⟩ = some (.pointer (some ⟨a.ng, 0, none⟩)) := B0.cell rfl
  clear h s0 B0
  go_enter Tryz.func20, Tryz.ntmps20
  go_wp2_with fail
  refine (plen_c w a.ng p.id p.boot p.seq p.pend N0.out).mono ?_
  rintro e w1 ⟨rfl, rfl⟩
  go_wp2_with fail
  go_ret
  exact ⟨rfl, rfl⟩

set_option maxHeartbeats 2000000 in
theorem ndGoodG {b : Bool} (hf : inV p = true) (hb : decide (0 < PProof.left p.pp p.pk p.pm p.clock p.com) = b) : Calls Tryz.prog 16 #[.pointer (some ⟨x, 0, none⟩)] w fun e w' => e = .returned (.bool b) ∧ Below w.heap.size w w' := by
  obtain ⟨a, s0, hr⟩ := h.open
  have HR := Lib.hid hr
  have HM := Lib.hid hr.mem
  have HK := Lib.hid (show 0 ≤ p.clock ∧ p.clock ≤ 2199023255552 by have := hr.clock; omega)
  have HZ := Lib.hid hb
  have S0 := Lib.hid s0
  have HB : Hid (Blk w x 79 (ncs d p a)) := Lib.hid (s0.sep.get (i := 0) rfl)
  have HF := Lib.hid hf
  clear h s0 hr hf hb
  go_enter Tryz.func16, Tryz.ntmps16
  go_wp2_with fail
-- REGION (*curfew/node.Node).Good 1 ngoodg 2
  refine Hb.begin ?_
  refine Hb.take (v := .pointer (some ⟨x, 0, none⟩)) 0 3 rfl ?_ (fun _ _ => rfl)
  refine Hb.take (v := .bool true) 1 4 rfl ?_ (fun w' hw' => by go_simp; first | done | rfl | omega | exact wrap_in (by omega) (by omega) | exact Int.tmod_eq_emod_of_nonneg (by omega) | exact Int.tdiv_eq_ediv_of_nonneg (by omega) | (simp; omega))
  refine Hb.take (v := .bool true) 2 5 rfl ?_ (fun _ _ => rfl)
  refine Hb.take (v := .pointer (some ⟨x, 0, none⟩)) 3 6 rfl ?_ (fun _ _ => rfl)
  refine Hb.call (f := 36) (args := #[.pointer (some ⟨x, 0, none⟩)]) 4 7 rfl ?_ (run_callf Tryz.func36 (by kernel_rfl) (by kernel_rfl) (by simp only [List.map_toArray, List.map_cons, List.map_nil]; rfl))
  refine (ndIn_c (show Blk w.drew x 79 (ncs d p a) from HB.out) (S0.out.drew.sep.get (i := 1) rfl) HM.out).mono ?_
  rw [HF.out]
  rintro e w2 ⟨rfl, b2⟩
  have BE := Lib.hid ((Below.refl w.heap.size w).drew.trans b2)
  have B2 := Lib.hid (Blk.past (show Blk w.drew x 79 (ncs d p a) from HB.out) b2)
  have P2 : Hid (Pf w2 a.pg p.pl p.pc p.pA p.pp p.pk p.pm) := Lib.hid ((S0.out.drew.past b2).sep.get (i := 7) rfl)
  refine Hb.back b2 b2.size ?_
  refine Hb.take (v := .bool true) 5 8 rfl ?_ (fun _ _ => rfl)
  refine Hb.take (v := .bool true) 6 9 rfl ?_ (fun _ _ => rfl)
  refine Hb.take (v := .pointer (some ⟨x, 0, none⟩)) 7 10 rfl ?_ (fun _ _ => rfl)
  refine Hb.take (v := .pointer (some ⟨x, 0, none⟩)) 8 11 rfl ?_ (fun w' hw' => by go_simp; first | done | rfl | (simp; omega))
  refine Hb.take (v := .pointer (some ⟨x, 16, none⟩)) 9 12 rfl ?_ (fun w' hw' => by go_simp; first | done | rfl | (simp; omega))
  refine Hb.take (v := .pointer (some ⟨a.pg, 0, none⟩)) 10 13 rfl ?_ (fun w' hw' => by exact ldProof (Blk.cell (i := 16) (Blk.past (show Blk w2 x 79 (ncs d p a) from B2.out) hw') rfl) rfl)
  refine Hb.take (v := .pointer (some ⟨x, 0, none⟩)) 11 14 rfl ?_ (fun _ _ => rfl)
  refine Hb.take (v := .pointer (some ⟨x, 0, none⟩)) 12 15 rfl ?_ (fun w' hw' => by go_simp; first | done | rfl | (simp; omega))
  refine Hb.take (v := .pointer (some ⟨x, 4, none⟩)) 13 16 rfl ?_ (fun w' hw' => by go_simp; first | done | rfl | (simp; omega))
  refine Hb.take (v := .int .i64 p.clock) 14 17 rfl ?_ (fun w' hw' => by exact ldI64 (Blk.cell (i := 4) (Blk.past (show Blk w2 x 79 (ncs d p a) from B2.out) hw') rfl) rfl)
  refine Hb.take (v := .pointer (some ⟨x, 0, none⟩)) 15 18 rfl ?_ (fun _ _ => rfl)
  refine Hb.take (v := .pointer (some ⟨x, 0, none⟩)) 16 19 rfl ?_ (fun w' hw' => by go_simp; first | done | rfl | (simp; omega))
  refine Hb.take (v := .pointer (some ⟨x, 10, none⟩)) 17 20 rfl ?_ (fun w' hw' => by go_simp; first | done | rfl | (simp; omega))
  refine Hb.take (v := .int .i64 p.com) 18 21 rfl ?_ (fun w' hw' => by exact ldInt (Blk.cell (i := 10) (Blk.past (show Blk w2 x 79 (ncs d p a) from B2.out) hw') rfl) rfl)
  refine Hb.call (f := 37) (args := #[.pointer (some ⟨a.pg, 0, none⟩), .int .i64 p.clock, .int .i64 p.com]) 19 22 rfl ?_ (run_callf Tryz.func37 (by kernel_rfl) (by kernel_rfl) (by simp only [List.map_toArray, List.map_cons, List.map_nil]; rfl))
  refine (pgood_c w2 a.pg p.pl p.pc p.pA p.pp p.pk p.pm P2.out HR.out.pf p.clock p.com HK.out).mono ?_
  rw [HZ.out]
  rintro e w3 ⟨rfl, rfl⟩
  refine Hb.back (Below.refl _ _) (Nat.le_refl _) ?_
  refine Hb.take (v := .bool b) 20 23 rfl ?_ (fun _ _ => rfl)
  refine Hb.take (v := .bool b) 21 2 rfl ?_ (fun _ _ => rfl)
  refine Hb.done ?_
-- END
  go_wp2_with fail
  go_ret
  exact ⟨rfl, BE.out⟩

/-- What Cast leaves. -/
def CastPost (w : World) (x d : Nat) (F : List Nat) (p : Np) (e : Ent) (r : Ending) (w' : World) : Prop :=
  (PEnt.may e = false ∧ r = .returned (.int .i64 1) ∧ Below w.heap.size w w') ∨
  (PEnt.may e = true ∧ p.pend.length = 4 ∧ r = .returned (.int .i64 9) ∧ Below w.heap.size w w') ∨
  (PEnt.may e = true ∧ p.pend.length < 4 ∧ r = .returned (.int .i64 0) ∧ NdW w w' x d F { p with seq := p.seq + 1, pend := p.pend ++ [e] })

set_option maxHeartbeats 4000000 in
theorem ndCast_in (hf : inV p = true) (ord lev : Int) (dt : ByteArray) (e : Ent) (he : PPend.nxt p.id p.boot p.seq ord lev dt = e) :
    Calls Tryz.prog 32 #[.pointer (some ⟨x, 0, none⟩), .int .i64 ord, .int .i64 lev, .string dt] w (CastPost w x d F p e) := by
  obtain ⟨a, s0, hr⟩ := h.open
  have HR := Lib.hid hr
  have HM := Lib.hid hr.mem
  have HN := Lib.hid h
  have S0 := Lib.hid s0
  have B0 : Blk w x 79 (ncs d p a) := s0.sep.get (i := 0) rfl
  have HB := Lib.hid B0
  have HF := Lib.hid hf
  have HE := Lib.hid he
  clear h s0 hr hf he B0
  go_enter Tryz.func32, Tryz.ntmps32
  go_wp2_with fail
  refine (ndIn_c HB.out (S0.out.sep.get (i := 1) rfl) HM.out).mono ?_
  rw [HF.out]
  rintro r w1 ⟨rfl, b1⟩
  have S1 := Lib.hid (S0.out.past b1)
  have B1 : Blk w1 x 79 (ncs d p a) := S1.out.sep.get (i := 0) rfl
  have N1 : Hid (Pn w1 a.ng p.id p.boot p.seq p.pend) := Lib.hid (S1.out.sep.get (i := 8) rfl)
  have c17 : w1.cell? ⟨x, 17, none⟩ = some (.pointer (some ⟨a.ng, 0, none⟩)) := B1.cell rfl
  have b1' := Lib.hid b1
  clear b1 B1
  go_wp2_with fail
  refine (padd_c w1 a.ng p.id p.boot p.seq p.pend N1.out ord lev dt HR.out.seq.1 HR.out.seq.2 e HE.out).mono ?_
  clear c17
  rintro r w2 (⟨q1, rfl, b2⟩ | ⟨q1, q2, rfl, b2⟩ | ⟨q1, q2, rfl, n2, t2⟩)
  · have Q1 := Lib.hid q1
    have b2' := Lib.hid (b1'.out.trans (b2.mono b1'.out.size))
    clear q1 b2
    simp only [ev, zeroE]
    go_wp2_with fail
    go_ret
    exact .inl ⟨Q1.out, rfl, b2'.out.trans ((Below.refl _ _).alloc (Nat.le_refl _) _ |>.mono b2'.out.size)⟩
  · have Q1 := Lib.hid (And.intro q1 q2)
    have b2' := Lib.hid (b1'.out.trans (b2.mono b1'.out.size))
    clear q1 q2 b2
    simp only [ev, zeroE]
    go_wp2_with fail
    go_ret
    exact .inr (.inl ⟨Q1.out.1, Q1.out.2, rfl, b2'.out.trans ((Below.refl _ _).alloc (Nat.le_refl _) _ |>.mono b2'.out.size)⟩)
  · have Q1 := Lib.hid (And.intro q1 q2)
    have hr2 : Nr { p with seq := p.seq + 1, pend := p.pend ++ [e] } := ⟨HR.out.n, HR.out.id, HR.out.boot, HR.out.pro, HR.out.clock, HR.out.heard, HR.out.last, HR.out.mem, HR.out.com, HR.out.vo, HR.out.den, HR.out.pf, by
      have h1 := ((PEnt.may_iff e).1 q1).2.2.1
      have h2 := HR.out.seq
      rw [← HE.out] at h1
      exact ⟨by show 0 ≤ p.seq + 1; omega, h1.2⟩⟩
    have W2 := Lib.hid ((show St okN w w2 F (parts x d { p with seq := p.seq + 1, pend := p.pend ++ [e] } a) from S1.out.set 8 rfl (pN_ok { p with seq := p.seq + 1, pend := p.pend ++ [e] } a) t2 n2 (fun k hk => .inl hk)).shut hr2)
    clear q1 q2 n2 t2 hr2
    simp only [ev]
    go_wp2_with fail
    go_ret
    exact .inr (.inr ⟨Q1.out.1, Q1.out.2, rfl, W2.out.ahead ((Below.refl _ _).alloc (Nat.le_refl _) _)⟩)
end
end Go.Proofs.YtacipjdaiglnjaaGreatDoor

