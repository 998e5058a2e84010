/- Package pending: Add. -/
import Derived.Test.YtmlmngoieabjbaaPendB
import Derived.Test.YtmlmngoieabjbaaEntA
import Derived.Test.YtmlmngoieabjbaaHeldT
namespace Go.Proofs.Ytmlmngoieabjbaa
open Go.RowKit PPend

set_option maxHeartbeats 4000000 in
set_option maxRecDepth 100000 in
theorem padd_nil (w : World) (ord lev : Int) (d : ByteArray) :
    Calls Try.prog 9 #[.pointer none, .int .i64 ord, .int .i64 lev, .string d] w fun x w' => x = .returned (.tuple #[ev zeroE, .int .i64 5]) ∧ Below w.heap.size w w' := by
  have b0 := (Below.refl w.heap.size w).alloc (Nat.le_refl _) (.cells #[.int .i64 0, .int .i64 0, .int .i64 0, .int .i64 0, .int .i64 0, .int .i64 0, .string ⟨#[]⟩] 35)
  have hZ : Blk (w.alloc (.cells #[.int .i64 0, .int .i64 0, .int .i64 0, .int .i64 0, .int .i64 0, .int .i64 0, .string ⟨#[]⟩] 35)) w.heap.size 35 (ecs zeroE) := Blk.newEnt w 35 zeroE
  have Z2 := Lib.hid (hZ.row #[.int .i64 0, .int .i64 0, .int .i64 0, .int .i64 0, .int .i64 0, .int .i64 0, .string ⟨#[]⟩])
  have B2 := Lib.hid (b0.trans (grown_below (grown_row (w.alloc (.cells #[.int .i64 0, .int .i64 0, .int .i64 0, .int .i64 0, .int .i64 0, .int .i64 0, .string ⟨#[]⟩] 35)) w.heap.size #[.int .i64 0, .int .i64 0, .int .i64 0, .int .i64 0, .int .i64 0, .int .i64 0, .string ⟨#[]⟩]) (Nat.le_refl _) b0.size))
  go_enter Try.func9, Try.ntmps9
  go_wp2_with ((with_reducible show wpList _ _ _ ((⟨none, Op.store 35 (.tmp 8) _, _, _, _, _⟩ : Oper) :: _) _ _); go_must (refine wpList_store_row rfl 35 (.tmp 8) _ rfl w.heap.size _ rfl rfl _ _ hZ (by kernel_rfl) (by rfl) (by kernel_rfl) ?_))
  refine bodyPost_ret (v := .tuple #[ev zeroE, .int .i64 5]) (results_rowB (p := 8) (u := 9) rfl _ _ w.heap.size _ _ _ _ rfl rfl Z2.out Try.underlying35 rfl (by kernel_rfl)) rfl ⟨rfl, B2.out⟩

theorem run_loadPi {w : World} {dst : Option Tmp} {x : Operand} {ty : TypeId} {pos : String} {after : Array Edge} {guard : Option (Nat × Bool)} {ρ : Operand → Value} {p : Addr} {k : Int}
    (h : w.cell? p = some (.int .i64 k)) (hx : ρ x = .pointer (some p)) : (execOp ρ { dst, op := .load 3 x, type := ty, pos, after, guard }).run Try.prog w = .ok (.value (.int .i64 k)) w := by
  go_simp
theorem run_allocE {w : World} {dst : Option Tmp} {ty : TypeId} {pos : String} {after : Array Edge} {guard : Option (Nat × Bool)} {ρ : Operand → Value} :
    (execOp ρ { dst, op := .alloc 35, type := ty, pos, after, guard }).run Try.prog w = .ok (.value (.pointer (some ⟨w.heap.size, 0, none⟩))) (w.alloc (.cells #[.int .i64 0, .int .i64 0, .int .i64 0, .int .i64 0, .int .i64 0, .int .i64 0, .string ⟨#[]⟩] 35)) := by
  have hz : (zeroValue 35).run Try.prog w = .ok (.agg #[.int .i64 0, .int .i64 0, .int .i64 0, .int .i64 0, .int .i64 0, .int .i64 0, .string ⟨#[]⟩]) w := by kernel_rfl
  go_simp
/-- What Add answers and leaves. -/
def AddPost (w : World) (g : Nat) (fr boot seq : Int) (L : List Ent) (e : Ent) (x : Ending) (w' : World) : Prop :=
  (PEnt.may e = false ∧ x = .returned (.tuple #[ev zeroE, .int .i64 1]) ∧ Below w.heap.size w w') ∨
  (PEnt.may e = true ∧ L.length = 4 ∧ x = .returned (.tuple #[ev zeroE, .int .i64 9]) ∧ Below w.heap.size w w') ∨
  (PEnt.may e = true ∧ L.length < 4 ∧ x = .returned (.tuple #[ev e, .int .i64 0]) ∧ Pn w' g fr boot (seq + 1) (L ++ [e]) ∧ Touch [g] w w')
set_option maxHeartbeats 8000000 in
set_option maxRecDepth 100000 in
theorem padd_c (w : World) (g : Nat) (fr boot seq : Int) (L : List Ent) (h : Pn w g fr boot seq L) (ord lev : Int) (d : ByteArray) (h0 : 0 ≤ seq) (h1 : seq ≤ 1099511627776) (e : Ent) (he : nxt fr boot seq ord lev d = e) :
    Calls Try.prog 9 #[.pointer (some ⟨g, 0, none⟩), .int .i64 ord, .int .i64 lev, .string d] w (AddPost w g fr boot seq L e) := by
  have hf := h.few
  obtain ⟨Z, hl, hB⟩ := h
  have HB := Lib.hid (hB.alloc (.cells #[.int .i64 0, .int .i64 0, .int .i64 0, .int .i64 0, .int .i64 0, .int .i64 0, .string ⟨#[]⟩] 35))
  have hK8 : Blk (w.alloc (.cells #[.int .i64 0, .int .i64 0, .int .i64 0, .int .i64 0, .int .i64 0, .int .i64 0, .string ⟨#[]⟩] 35)) w.heap.size 35 (ecs zeroE) := Blk.newEnt w 35 zeroE
  have K8 := Lib.hid hK8
  have BW := Lib.hid ((Below.refl w.heap.size w).alloc (Nat.le_refl _) (.cells #[.int .i64 0, .int .i64 0, .int .i64 0, .int .i64 0, .int .i64 0, .int .i64 0, .string ⟨#[]⟩] 35))
  have hgk : g < w.heap.size := hB.lt
  have HL := Lib.hid hl
  have HE := Lib.hid he
  have ES := Lib.hid (show e.seq = seq + 1 by rw [← he]; rfl)
  clear hB hK8 hl he
  go_enter Try.func9, Try.ntmps9
  go_wp2_with fail
  have hk8 : w.heap.size < (w.alloc (.cells #[.int .i64 0, .int .i64 0, .int .i64 0, .int .i64 0, .int .i64 0, .int .i64 0, .string ⟨#[]⟩] 35)).heap.size := K8.out.lt
  generalize hk : w.heap.size = k8 at *
  have HK := Lib.hid hk
  clear hk
  generalize hw1 : w.alloc (.cells #[.int .i64 0, .int .i64 0, .int .i64 0, .int .i64 0, .int .i64 0, .int .i64 0, .string ⟨#[]⟩] 35) = w1 at *
  clear hw1
  have hg1 : g < w1.heap.size := HB.out.lt
-- REGION (*curfew/pending.Pending).Add 3 pnadd3 2
  refine Hs.begin ([w1.heap.size]) ?_
  refine Hs.take (v := .pointer (some ⟨g, 0, none⟩)) 0 14 rfl ?_ (fun _ _ => rfl)
  refine Hs.take (v := .pointer (some ⟨g, 0, none⟩)) 1 15 rfl ?_ (fun w' hw' => by go_simp; first | done | rfl | omega | exact wrap_in (by omega) (by omega) | exact Int.tmod_eq_emod_of_nonneg (by omega) | exact Int.tdiv_eq_ediv_of_nonneg (by omega) | (simp; omega))
  refine Hs.take (v := .pointer (some ⟨g, 0, none⟩)) 2 16 rfl ?_ (fun w' hw' => by go_simp; first | done | rfl | omega | exact wrap_in (by omega) (by omega) | exact Int.tmod_eq_emod_of_nonneg (by omega) | exact Int.tdiv_eq_ediv_of_nonneg (by omega) | (simp; omega))
  refine Hs.take (v := .int .i64 fr) 3 17 rfl ?_ (fun w' hw' => by exact run_loadPi ((HB.out.drew.touch hw' (by rw [List.mem_singleton]; exact Nat.ne_of_lt hg1)).cell pncs_fr) rfl)
  refine Hs.take (v := .pointer (some ⟨g, 0, none⟩)) 4 18 rfl ?_ (fun _ _ => rfl)
  refine Hs.take (v := .pointer (some ⟨g, 0, none⟩)) 5 19 rfl ?_ (fun w' hw' => by go_simp; first | done | rfl | omega | exact wrap_in (by omega) (by omega) | exact Int.tmod_eq_emod_of_nonneg (by omega) | exact Int.tdiv_eq_ediv_of_nonneg (by omega) | (simp; omega))
  refine Hs.take (v := .pointer (some ⟨g, 1, none⟩)) 6 20 rfl ?_ (fun w' hw' => by go_simp; first | done | rfl | omega | exact wrap_in (by omega) (by omega) | exact Int.tmod_eq_emod_of_nonneg (by omega) | exact Int.tdiv_eq_ediv_of_nonneg (by omega) | (simp; omega))
  refine Hs.take (v := .int .i64 boot) 7 21 rfl ?_ (fun w' hw' => by exact run_loadI ((HB.out.drew.touch hw' (by rw [List.mem_singleton]; exact Nat.ne_of_lt hg1)).cell pncs_boot) rfl)
  refine Hs.take (v := .pointer (some ⟨g, 0, none⟩)) 8 22 rfl ?_ (fun _ _ => rfl)
  refine Hs.take (v := .pointer (some ⟨g, 0, none⟩)) 9 23 rfl ?_ (fun w' hw' => by go_simp; first | done | rfl | omega | exact wrap_in (by omega) (by omega) | exact Int.tmod_eq_emod_of_nonneg (by omega) | exact Int.tdiv_eq_ediv_of_nonneg (by omega) | (simp; omega))
  refine Hs.take (v := .pointer (some ⟨g, 2, none⟩)) 10 24 rfl ?_ (fun w' hw' => by go_simp; first | done | rfl | omega | exact wrap_in (by omega) (by omega) | exact Int.tmod_eq_emod_of_nonneg (by omega) | exact Int.tdiv_eq_ediv_of_nonneg (by omega) | (simp; omega))
  refine Hs.take (v := .int .i64 seq) 11 25 rfl ?_ (fun w' hw' => by exact run_loadI ((HB.out.drew.touch hw' (by rw [List.mem_singleton]; exact Nat.ne_of_lt hg1)).cell pncs_seq) rfl)
  refine Hs.take (v := .int .i64 (seq + 1)) 12 26 rfl ?_ (fun w' hw' => by go_simp; first | done | rfl | omega | exact wrap_in (by omega) (by omega) | exact Int.tmod_eq_emod_of_nonneg (by omega) | exact Int.tdiv_eq_ediv_of_nonneg (by omega) | (simp; omega))
  refine Hs.take (v := .int .i64 ord) 13 27 rfl ?_ (fun _ _ => rfl)
  refine Hs.take (v := .int .i64 lev) 14 28 rfl ?_ (fun _ _ => rfl)
  refine Hs.take (v := .string d) 15 29 rfl ?_ (fun _ _ => rfl)
  refine Hs.take (v := .agg #[.int .i64 fr, .int .i64 boot, .int .i64 (seq + 1), .int .i64 ord, .int .i64 lev, .int .i64 0, .string d]) 16 30 rfl ?_ (fun w' hw' => by go_simp; first | done | rfl | omega | exact wrap_in (by omega) (by omega) | exact Int.tmod_eq_emod_of_nonneg (by omega) | exact Int.tdiv_eq_ediv_of_nonneg (by omega) | (simp; omega))
  refine Hs.only 17 (some 10) rfl ?_
  refine wpList_runTo' rfl (.pointer (some ⟨w1.heap.size, 0, none⟩)) _ run_allocE ?_
  refine Hs.next (.of_below ((Below.refl _ _).alloc (Nat.le_refl _) _)) ?_
  refine Hs.only 18 none rfl ?_
  refine wpList_store_row rfl 35 (.tmp 10) _ rfl w1.heap.size _ rfl rfl _ _ (Blk.newEnt w1.drew 35 zeroE) (by kernel_rfl) (by rfl) (by kernel_rfl) ?_
  refine Hs.next (w' := (w1.drew.alloc (.cells #[.int .i64 0, .int .i64 0, .int .i64 0, .int .i64 0, .int .i64 0, .int .i64 0, .string ⟨#[]⟩] 35)).setRow w1.heap.size #[.int .i64 fr, .int .i64 boot, .int .i64 (seq + 1), .int .i64 ord, .int .i64 lev, .int .i64 0, .string d]) (.of_grown (grown_row _ _ _)) ?_
  refine Hs.done ?_
-- END
  have K10 : Blk ((w1.drew.alloc (.cells #[.int .i64 0, .int .i64 0, .int .i64 0, .int .i64 0, .int .i64 0, .int .i64 0, .string ⟨#[]⟩] 35)).setRow w1.heap.size #[.int .i64 fr, .int .i64 boot, .int .i64 (seq + 1), .int .i64 ord, .int .i64 lev, .int .i64 0, .string d]) w1.heap.size 35 (ecs e) := by
    rw [← HE.out]; exact (Blk.newEnt w1.drew 35 zeroE).row #[.int .i64 fr, .int .i64 boot, .int .i64 (seq + 1), .int .i64 ord, .int .i64 lev, .int .i64 0, .string d]
  have T3 : Touch [w1.heap.size] w1 ((w1.drew.alloc (.cells #[.int .i64 0, .int .i64 0, .int .i64 0, .int .i64 0, .int .i64 0, .int .i64 0, .string ⟨#[]⟩] 35)).setRow w1.heap.size #[.int .i64 fr, .int .i64 boot, .int .i64 (seq + 1), .int .i64 ord, .int .i64 lev, .int .i64 0, .string d]) := ((Touch.refl _ w1).drew.alloc _).trans (.of_grown (grown_row _ _ _))
  have B3' : Below w1.heap.size w1 ((w1.drew.alloc (.cells #[.int .i64 0, .int .i64 0, .int .i64 0, .int .i64 0, .int .i64 0, .int .i64 0, .string ⟨#[]⟩] 35)).setRow w1.heap.size #[.int .i64 fr, .int .i64 boot, .int .i64 (seq + 1), .int .i64 ord, .int .i64 lev, .int .i64 0, .string d]) := T3.below (by simp) (Nat.le_refl _)
  have B3 := Lib.hid B3'
  have E3 := Lib.hid K10
  have hkg : w1.heap.size ≠ g := Nat.ne_of_gt hg1
  clear T3 B3' K10
  generalize hw3 : (w1.drew.alloc (.cells #[.int .i64 0, .int .i64 0, .int .i64 0, .int .i64 0, .int .i64 0, .int .i64 0, .string ⟨#[]⟩] 35)).setRow w1.heap.size #[.int .i64 fr, .int .i64 boot, .int .i64 (seq + 1), .int .i64 ord, .int .i64 lev, .int .i64 0, .string d] = w3 at *
  clear hw3
  have P3 := Lib.hid (HB.out.past B3.out)
  have Z3 := Lib.hid (K8.out.past B3.out)
  have W3 := Lib.hid (BW.out.trans (B3.out.mono (Nat.le_of_lt hk8)))
  clear HB K8 BW B3 hk8
  obtain ⟨k10, hk10⟩ : ∃ k, w1.heap.size = k := ⟨_, rfl⟩
  rw [hk10] at E3 hkg hg1 ⊢
  clear hk10
  obtain ⟨d0, d1, d2, d3, d4, d5, d6⟩ := E3.out.ent
  go_wp2_with fail
  clear d0 d1 d2 d3 d4 d5 d6
  refine (May_c w3 e).mono ?_
  cases hm : PEnt.may e
  · have HM := Lib.hid hm
    clear hm
    rintro x w4 ⟨rfl, b4⟩
    have hZ := Z3.out.past b4
    have Z5 := Lib.hid (hZ.row #[.int .i64 0, .int .i64 0, .int .i64 0, .int .i64 0, .int .i64 0, .int .i64 0, .string ⟨#[]⟩])
    have W4 := Lib.hid (W3.out.trans (b4.mono (by rw [← HK.out]; exact W3.out.size)))
    have W5 := Lib.hid (W4.out.trans (grown_below (grown_row w4 k8 #[.int .i64 0, .int .i64 0, .int .i64 0, .int .i64 0, .int .i64 0, .int .i64 0, .string ⟨#[]⟩]) (Nat.le_refl _) (by rw [← HK.out]; exact W4.out.size)))
    clear b4
    go_wp2_with ((with_reducible show wpList _ _ _ ((⟨none, Op.store 35 (.tmp 8) _, _, _, _, _⟩ : Oper) :: _) _ _); go_must (refine wpList_store_row rfl 35 (.tmp 8) _ rfl k8 _ rfl rfl _ _ hZ (by kernel_rfl) (by rfl) (by kernel_rfl) ?_))
    refine bodyPost_ret (v := .tuple #[ev zeroE, .int .i64 1]) (results_rowB (p := 8) (u := 9) rfl _ _ k8 _ _ _ _ rfl rfl Z5.out Try.underlying35 rfl (by kernel_rfl)) rfl (.inl ⟨HM.out, rfl, by rw [HK.out]; exact W5.out⟩)
  · have HM := Lib.hid hm
    clear hm
    rintro x w4 ⟨rfl, b4⟩
    have P4 := Lib.hid (P3.out.past b4)
    have Z4 := Lib.hid (Z3.out.past b4)
    have K4 := Lib.hid (E3.out.past b4)
    have W4 := Lib.hid (W3.out.trans (b4.mono (by rw [← HK.out]; exact W3.out.size)))
    have c31 := P4.out.cell (pncs_n HL.out)
    clear b4
    rcases (by omega : L.length = 4 ∨ L.length < 4) with hn | hn
    · have hZ := Z4.out
      have Z5 := Lib.hid (hZ.row #[.int .i64 0, .int .i64 0, .int .i64 0, .int .i64 0, .int .i64 0, .int .i64 0, .string ⟨#[]⟩])
      have W5 := Lib.hid (W4.out.trans (grown_below (grown_row w4 k8 #[.int .i64 0, .int .i64 0, .int .i64 0, .int .i64 0, .int .i64 0, .int .i64 0, .string ⟨#[]⟩]) (Nat.le_refl _) (by rw [← HK.out]; exact W4.out.size)))
      have HN := Lib.hid hn
      have hn' : (L.length : Int) = 4 := by omega
      rw [hn'] at c31
      clear hn hn'
      go_wp2_with ((with_reducible show wpList _ _ _ ((⟨none, Op.store 35 (.tmp 8) _, _, _, _, _⟩ : Oper) :: _) _ _); go_must (refine wpList_store_row rfl 35 (.tmp 8) _ rfl k8 _ rfl rfl _ _ hZ (by kernel_rfl) (by rfl) (by kernel_rfl) ?_))
      refine bodyPost_ret (v := .tuple #[ev zeroE, .int .i64 9]) (results_rowB (p := 8) (u := 9) rfl _ _ k8 _ _ _ _ rfl rfl Z5.out Try.underlying35 rfl (by kernel_rfl)) rfl (.inr (.inl ⟨HM.out, HN.out, rfl, by rw [HK.out]; exact W5.out⟩))
    · have hn4 : (L.length : Int) ≠ 4 := by omega
      go_wp2_with fail
      have TH := Lib.hid (show w4.drew.there g (3 + L.length * 7) 7 from (show Blk w4.drew g 49 ([.int .i64 fr, .int .i64 boot, .int .i64 seq] ++ (els (L ++ Z) ++ [.int .i64 L.length])) from P4.out.drew).entThere rfl (by rw [HL.out]; omega))
-- REGION (*curfew/pending.Pending).Add 8 pnadd8 6
      refine Hs.begin ([g]) ?_
      refine Hs.take (v := .pointer (some ⟨g, 0, none⟩)) 0 41 rfl ?_ (fun _ _ => rfl)
      refine Hs.take (v := .pointer (some ⟨g, 0, none⟩)) 1 42 rfl ?_ (fun _ _ => rfl)
      refine Hs.take (v := .pointer (some ⟨g, 0, none⟩)) 2 43 rfl ?_ (fun w' hw' => by go_simp; first | done | rfl | omega | exact wrap_in (by omega) (by omega) | exact Int.tmod_eq_emod_of_nonneg (by omega) | exact Int.tdiv_eq_ediv_of_nonneg (by omega) | (simp; omega))
      refine Hs.take (v := .pointer (some ⟨g, 31, none⟩)) 3 44 rfl ?_ (fun w' hw' => by go_simp; first | done | rfl | omega | exact wrap_in (by omega) (by omega) | exact Int.tmod_eq_emod_of_nonneg (by omega) | exact Int.tdiv_eq_ediv_of_nonneg (by omega) | (simp; omega))
      refine Hs.take (v := ev e) 5 46 rfl ?_ (fun w' hw' => by exact run_loadE ((K4.out.drew.touch hw' (by rw [List.mem_singleton]; exact hkg)).range) rfl)
      refine Hs.take (v := .pointer (some ⟨g, 0, none⟩)) 6 47 rfl ?_ (fun w' hw' => by go_simp; first | done | rfl | omega | exact wrap_in (by omega) (by omega) | exact Int.tmod_eq_emod_of_nonneg (by omega) | exact Int.tdiv_eq_ediv_of_nonneg (by omega) | (simp; omega))
      refine Hs.take (v := .pointer (some ⟨g, 3, none⟩)) 7 48 rfl ?_ (fun w' hw' => by go_simp; first | done | rfl | omega | exact wrap_in (by omega) (by omega) | exact Int.tmod_eq_emod_of_nonneg (by omega) | exact Int.tdiv_eq_ediv_of_nonneg (by omega) | (simp; omega))
      refine Hs.only 4 (some 45) rfl ?_
      refine wpList_runTo' rfl (.int .i64 (L.length : Int)) _ (run_loadPi (P4.out.drew.cell (pncs_n HL.out)) rfl) ?_
      refine Hs.next (Touch.refl _ _) ?_
      refine Hs.take (v := .pointer (some ⟨g, 3 + L.length * 7, none⟩)) 8 49 rfl ?_ (fun w' hw' => by go_simp; first | done | rfl | omega | exact wrap_in (by omega) (by omega) | exact Int.tmod_eq_emod_of_nonneg (by omega) | exact Int.tdiv_eq_ediv_of_nonneg (by omega) | (simp; omega))
      refine Hs.only 9 none rfl ?_
      refine wpList_store_mid rfl 35 (.tmp 49) (.tmp 46) rfl g (3 + L.length * 7) (ecs e).toArray rfl rfl TH.out (by kernel_rfl) (all_oneCell_toArray (ecs_one _)) ?_
      refine Hs.next (w' := w4.drew.setCells g (3 + L.length * 7) (ecs e)) (grown_cells _ _ _ _) ?_
      refine Hs.done ?_
-- END
      have hlt : L.length < (L ++ Z).length := by rw [HL.out]; exact hn
      have P6 := Lib.hid (show Blk (w4.drew.setCells g (3 + L.length * 7) (ecs e)) g 49 (pncs fr boot seq ((L ++ Z).set L.length e) L.length) from
        (show Blk w4.drew g 49 ([.int .i64 fr, .int .i64 boot, .int .i64 seq] ++ (els (L ++ Z) ++ [.int .i64 L.length])) from P4.out.drew).entSet rfl hlt e)
      have K6 := Lib.hid (K4.out.drew.touch (grown_cells w4.drew g (ecs e) (3 + L.length * 7)) (by rw [List.mem_singleton]; exact hkg))
      have hk8g : k8 ≠ g := Nat.ne_of_gt hgk
      have Z6 := Lib.hid (Z4.out.drew.touch (grown_cells w4.drew g (ecs e) (3 + L.length * 7)) (by rw [List.mem_singleton]; exact hk8g))
      have T6 := Lib.hid (show Touch [g] w (w4.drew.setCells g (3 + L.length * 7) (ecs e)) from (Touch.of_below (show Below w.heap.size w w4 from by rw [HK.out]; exact W4.out)).drew.trans (grown_cells w4.drew g (ecs e) (3 + L.length * 7)))
      have SET := Lib.hid (show (L ++ Z).set L.length e = (L ++ [e]) ++ Z.tail from by
        cases Z with
        | nil => rw [List.append_nil] at hlt; omega
        | cons z Z => simp)
      have LZ := Lib.hid (show ((L ++ Z).set L.length e).length = 4 by rw [List.length_set]; exact HL.out)
      clear P4 Z4 K4 W4 TH c31 hlt
      generalize hw6 : w4.drew.setCells g (3 + L.length * 7) (ecs e) = w6 at *
      clear hw6
      have c31 := P6.out.cell (pncs_n LZ.out)
      have f31 := P6.out.free 31
      have P7 := Lib.hid (show Blk (w6.setCell ⟨g, 31, none⟩ (.int .i64 ((L.length : Int) + 1))) g 49 (pncs fr boot seq ((L ++ Z).set L.length e) (L.length + 1)) from by
        have := P6.out.set 31 (.int .i64 ((L.length + 1 : Nat) : Int))
        rw [pnset_n LZ.out] at this
        exact this)
      have K7 := Lib.hid (K6.out.touch (.of_grown (grown_set w6 g 31 (.int .i64 ((L.length : Int) + 1)))) (by rw [List.mem_singleton]; exact hkg))
      have Z7 := Lib.hid (Z6.out.touch (.of_grown (grown_set w6 g 31 (.int .i64 ((L.length : Int) + 1)))) (by rw [List.mem_singleton]; exact hk8g))
      have T7 := Lib.hid (T6.out.trans (.of_grown (grown_set w6 g 31 (.int .i64 ((L.length : Int) + 1)))))
      have c2 := P7.out.cell pncs_seq
      have f2 := P7.out.free 2
      have d2 := K7.out.cell (i := 2) rfl
      have P8 := Lib.hid (show Blk ((w6.setCell ⟨g, 31, none⟩ (.int .i64 ((L.length : Int) + 1))).setCell ⟨g, 2, none⟩ (.int .i64 e.seq)) g 49 (pncs fr boot e.seq ((L ++ Z).set L.length e) (L.length + 1)) from P7.out.set 2 (.int .i64 e.seq))
      have K8 := Lib.hid (K7.out.touch (.of_grown (grown_set _ g 2 (.int .i64 e.seq))) (by rw [List.mem_singleton]; exact hkg))
      have hZ := Z7.out.touch (.of_grown (grown_set _ g 2 (.int .i64 e.seq))) (by rw [List.mem_singleton]; exact hk8g)
      have T8 := Lib.hid (T7.out.trans (.of_grown (grown_set _ g 2 (.int .i64 e.seq))))
      obtain ⟨e0, e1, e2, e3, e4, e5, e6⟩ := K8.out.ent
      clear P6 K6 Z6 T6 P7 K7 Z7 T7 LZ
      have Z9 := Lib.hid (hZ.row #[.int .i64 e.fr, .int .i64 e.boot, .int .i64 e.seq, .int .i64 e.ord, .int .i64 e.lev, .int .i64 e.stamp, .string e.data])
      have P9 := Lib.hid (P8.out.far (grown_row _ k8 #[.int .i64 e.fr, .int .i64 e.boot, .int .i64 e.seq, .int .i64 e.ord, .int .i64 e.lev, .int .i64 e.stamp, .string e.data]) hk8g.symm)
      have T9 := Lib.hid ((T8.out.wide (S' := [g, k8]) (by simp)).trans ((Touch.of_grown (grown_row _ k8 #[.int .i64 e.fr, .int .i64 e.boot, .int .i64 e.seq, .int .i64 e.ord, .int .i64 e.lev, .int .i64 e.stamp, .string e.data])).wide (by simp)))
      clear P8 K8 T8
      go_wp2_with ((with_reducible show wpList _ _ _ ((⟨none, Op.store 35 (.tmp 8) _, _, _, _, _⟩ : Oper) :: _) _ _); go_must (refine wpList_store_row rfl 35 (.tmp 8) _ rfl k8 _ rfl rfl _ _ hZ (by kernel_rfl) (by rfl) (by kernel_rfl) ?_))
      refine bodyPost_ret (v := .tuple #[ev e, .int .i64 0]) (results_rowB (p := 8) (u := 9) rfl _ _ k8 _ _ _ _ rfl rfl Z9.out Try.underlying35 rfl (by kernel_rfl)) rfl (.inr (.inr ⟨HM.out, hn, rfl, ⟨Z.tail, ?_, ?_⟩, ?_⟩))
      · rw [← SET.out, List.length_set]; exact HL.out
      · rw [← SET.out, ← ES.out, List.length_append]; exact P9.out
      · exact ⟨T9.out.os, T9.out.tape, T9.out.output, T9.out.size, fun k hk hs => T9.out.block k hk (by
          have := HK.out
          simp only [List.mem_cons, List.not_mem_nil, or_false, not_or] at hs ⊢
          exact ⟨hs, by omega⟩)⟩
end Go.Proofs.Ytmlmngoieabjbaa
