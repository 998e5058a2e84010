/- The document's own Pending: 'Rn'; its Add, its Done. -/
import Derived.Test.YtmlmngoieabjbaaPendC
import Derived.Test.YtmlmngoieabjbaaEntB
import Derived.Test.YtmlmngoieabjbaaEntHas
namespace Go.Proofs.Ytmlmngoieabjbaa
open Go.RowKit PPend

/-- The document's Pending at block g: F are its blocks. -/
structure Rn (w : World) (g : Nat) (F : List Nat) (fr boot seq : Int) (L : List Ent) : Prop where
  ex : ∃ A c, Blk w g 29 [.int .i64 fr, .int .i64 boot, .int .i64 seq, .slice A L.length c] ∧ Ow w 0 35 7 A L.length c (els L) ∧ F = g :: bl A
section
variable {w w' : World} {g : Nat} {F S : List Nat} {fr boot seq : Int} {L : List Ent}
theorem Rn.hi (h : Rn w g F fr boot seq L) : ∀ k ∈ F, k < w.heap.size := by
  obtain ⟨A, c, hB, hO, rfl⟩ := h.ex
  intro k hk
  rcases List.mem_cons.1 hk with rfl | hk
  · exact hB.lt
  · exact hO.hi k (mem_bl.1 hk)
theorem Rn.touch (h : Rn w g F fr boot seq L) (ht : Touch S w w') (hd : ∀ k ∈ S, k ∉ F) : Rn w' g F fr boot seq L := by
  obtain ⟨A, c, hB, hO, rfl⟩ := h.ex
  exact ⟨A, c, hB.touch ht (fun hm => hd g hm (List.mem_cons_self ..)), hO.touch ht (fun s hs e => hd s hs (List.mem_cons_of_mem _ (mem_bl.2 e))), rfl⟩
theorem Rn.past (h : Rn w g F fr boot seq L) (hb : Below w.heap.size w w') : Rn w' g F fr boot seq L := h.touch (S := []) (.of_below hb) (by simp)
theorem Rn.drew (h : Rn w g F fr boot seq L) : Rn w.drew g F fr boot seq L := ⟨h.ex⟩
theorem Rn.alloc (h : Rn w g F fr boot seq L) (o : Obj) : Rn (w.alloc o) g F fr boot seq L := h.past ((Below.refl _ _).alloc (Nat.le_refl _) _)
theorem Rn.blk (h : Rn w g F fr boot seq L) : ∃ A c, Blk w g 29 [.int .i64 fr, .int .i64 boot, .int .i64 seq, .slice A L.length c] ∧ Rd w w.heap.size A c 7 L.length (els L) := by
  obtain ⟨A, c, hB, hO, rfl⟩ := h.ex
  exact ⟨A, c, hB, hO.rd⟩
/-- A block of another type is none of its. -/
theorem Rn.not {k : Nat} {t : TypeId} {xs : List Value} (h : Rn w g F fr boot seq L) (hB : Blk w k t xs) (h1 : t ≠ 29) (h2 : t ≠ 35) : k ∉ F := by
  obtain ⟨A, c, hg, hO, rfl⟩ := h.ex
  intro hk
  rcases List.mem_cons.1 hk with hk | hk
  · exact hB.ne hg h1 hk
  · exact hO.ne hB (Ne.symm h2) (mem_bl.1 hk)
/-- What a call leaves that writes it. -/
structure RnW (w w' : World) (g : Nat) (F : List Nat) (fr boot seq : Int) (L : List Ent) : Prop where
  ex : ∃ F', Rn w' g F' fr boot seq L ∧ ∀ k ∈ F', k ∈ F ∨ w.heap.size ≤ k
  touch : Touch F w w'
end
theorem run_loadEs {w : World} {dst : Option Tmp} {x : Operand} {ty : TypeId} {pos : String} {after : Array Edge} {guard : Option (Nat × Bool)} {ρ : Operand → Value} {p : Addr} {A : Option Addr} {n c : Nat}
    (h : w.cell? p = some (.slice A n c)) (hx : ρ x = .pointer (some p)) : (execOp ρ { dst, op := .load 23 x, type := ty, pos, after, guard }).run Try.prog w = .ok (.value (.slice A n c)) w := by
  go_simp
theorem run_storeEs {w : World} {dst : Option Tmp} {x y : Operand} {ty : TypeId} {pos : String} {after : Array Edge} {guard : Option (Nat × Bool)} {ρ : Operand → Value} {g i : Nat} {A A' : Option Addr} {n c n' c' : Nat}
    (h : w.cell? ⟨g, i, none⟩ = some (.slice A' n' c')) (hf : w.frozen? ⟨g, i, none⟩ = false) (hx : ρ x = .pointer (some ⟨g, i, none⟩)) (hy : ρ y = .slice A n c) :
    (execOp ρ { dst, op := .store 23 x y, type := ty, pos, after, guard }).run Try.prog w = .ok .skip (w.setCell ⟨g, i, none⟩ (.slice A n c)) := by
  go_simp
/-- What its Add answers and leaves. -/
def RAddPost (w : World) (g : Nat) (F : List Nat) (fr boot seq : Int) (L : List Ent) (e : Ent) (x : Ending) (w' : World) : Prop :=
  (PEnt.may e = false ∧ x = .returned (.tuple #[ev zeroE, .int .i64 1]) ∧ Below w.heap.size w w') ∨
  (PEnt.may e = true ∧ 4 ≤ L.length ∧ x = .returned (.tuple #[ev zeroE, .int .i64 9]) ∧ Below w.heap.size w w') ∨
  (PEnt.may e = true ∧ L.length < 4 ∧ x = .returned (.tuple #[ev e, .int .i64 0]) ∧ RnW w w' g F fr boot (seq + 1) (L ++ [e]))
set_option maxHeartbeats 8000000 in
set_option maxRecDepth 100000 in
theorem rnadd_c (w : World) (g : Nat) (F : List Nat) (fr boot seq : Int) (L : List Ent) (h : Rn w g F fr boot seq L) (ord lev : Int) (d : ByteArray) (h0 : 0 ≤ seq) (h1 : seq ≤ 1099511627776) (e : Ent) (he : nxt fr boot seq ord lev d = e) :
    Calls Try.prog 10 #[.pointer (some ⟨g, 0, none⟩), .int .i64 ord, .int .i64 lev, .string d] w (RAddPost w g F fr boot seq L e) := by
  have HR := Lib.hid (h.alloc (.cells #[.int .i64 0, .int .i64 0, .int .i64 0, .int .i64 0, .int .i64 0, .int .i64 0, .string ⟨#[]⟩] 35))
  obtain ⟨A0, c0, hB0, -⟩ := h.blk
  have HB := Lib.hid (hB0.alloc (.cells #[.int .i64 0, .int .i64 0, .int .i64 0, .int .i64 0, .int .i64 0, .int .i64 0, .string ⟨#[]⟩] 35))
  have hK8 : Blk (w.alloc (.cells #[.int .i64 0, .int .i64 0, .int .i64 0, .int .i64 0, .int .i64 0, .int .i64 0, .string ⟨#[]⟩] 35)) w.heap.size 35 (ecs zeroE) := Blk.newEnt w 35 zeroE
  have K8 := Lib.hid hK8
  have BW := Lib.hid ((Below.refl w.heap.size w).alloc (Nat.le_refl _) (.cells #[.int .i64 0, .int .i64 0, .int .i64 0, .int .i64 0, .int .i64 0, .int .i64 0, .string ⟨#[]⟩] 35))
  have hgk : g < w.heap.size := hB0.lt
  have HF := Lib.hid h.hi
  have HE := Lib.hid he
  have ES := Lib.hid (show e.seq = seq + 1 by rw [← he]; rfl)
  clear hB0 hK8 he h
  go_enter Try.func10, Try.ntmps10
  go_wp2_with fail
  have hk8 : w.heap.size < (w.alloc (.cells #[.int .i64 0, .int .i64 0, .int .i64 0, .int .i64 0, .int .i64 0, .int .i64 0, .string ⟨#[]⟩] 35)).heap.size := K8.out.lt
  generalize hk : w.heap.size = k8 at *
  have HK := Lib.hid hk
  clear hk
  generalize hw1 : w.alloc (.cells #[.int .i64 0, .int .i64 0, .int .i64 0, .int .i64 0, .int .i64 0, .int .i64 0, .string ⟨#[]⟩] 35) = w1 at *
  clear hw1
  have hg1 : g < w1.heap.size := HB.out.lt
-- REGION (*curfew/curfewref19.Pending).Add 1 pnradd1 2
  refine Hs.begin ([w1.heap.size]) ?_
  refine Hs.take (v := .pointer (some ⟨g, 0, none⟩)) 0 11 rfl ?_ (fun _ _ => rfl)
  refine Hs.take (v := .pointer (some ⟨g, 0, none⟩)) 1 12 rfl ?_ (fun w' hw' => by go_simp; first | done | rfl | omega | exact wrap_in (by omega) (by omega) | exact Int.tmod_eq_emod_of_nonneg (by omega) | exact Int.tdiv_eq_ediv_of_nonneg (by omega) | (simp; omega))
  refine Hs.take (v := .pointer (some ⟨g, 0, none⟩)) 2 13 rfl ?_ (fun w' hw' => by go_simp; first | done | rfl | omega | exact wrap_in (by omega) (by omega) | exact Int.tmod_eq_emod_of_nonneg (by omega) | exact Int.tdiv_eq_ediv_of_nonneg (by omega) | (simp; omega))
  refine Hs.take (v := .int .i64 fr) 3 14 rfl ?_ (fun w' hw' => by exact run_loadPi ((HB.out.drew.touch hw' (by rw [List.mem_singleton]; exact Nat.ne_of_lt hg1)).cell (i := 0) rfl) rfl)
  refine Hs.take (v := .pointer (some ⟨g, 0, none⟩)) 4 15 rfl ?_ (fun _ _ => rfl)
  refine Hs.take (v := .pointer (some ⟨g, 0, none⟩)) 5 16 rfl ?_ (fun w' hw' => by go_simp; first | done | rfl | omega | exact wrap_in (by omega) (by omega) | exact Int.tmod_eq_emod_of_nonneg (by omega) | exact Int.tdiv_eq_ediv_of_nonneg (by omega) | (simp; omega))
  refine Hs.take (v := .pointer (some ⟨g, 1, none⟩)) 6 17 rfl ?_ (fun w' hw' => by go_simp; first | done | rfl | omega | exact wrap_in (by omega) (by omega) | exact Int.tmod_eq_emod_of_nonneg (by omega) | exact Int.tdiv_eq_ediv_of_nonneg (by omega) | (simp; omega))
  refine Hs.take (v := .int .i64 boot) 7 18 rfl ?_ (fun w' hw' => by exact run_loadI ((HB.out.drew.touch hw' (by rw [List.mem_singleton]; exact Nat.ne_of_lt hg1)).cell (i := 1) rfl) rfl)
  refine Hs.take (v := .pointer (some ⟨g, 0, none⟩)) 8 19 rfl ?_ (fun _ _ => rfl)
  refine Hs.take (v := .pointer (some ⟨g, 0, none⟩)) 9 20 rfl ?_ (fun w' hw' => by go_simp; first | done | rfl | omega | exact wrap_in (by omega) (by omega) | exact Int.tmod_eq_emod_of_nonneg (by omega) | exact Int.tdiv_eq_ediv_of_nonneg (by omega) | (simp; omega))
  refine Hs.take (v := .pointer (some ⟨g, 2, none⟩)) 10 21 rfl ?_ (fun w' hw' => by go_simp; first | done | rfl | omega | exact wrap_in (by omega) (by omega) | exact Int.tmod_eq_emod_of_nonneg (by omega) | exact Int.tdiv_eq_ediv_of_nonneg (by omega) | (simp; omega))
  refine Hs.take (v := .int .i64 seq) 11 22 rfl ?_ (fun w' hw' => by exact run_loadI ((HB.out.drew.touch hw' (by rw [List.mem_singleton]; exact Nat.ne_of_lt hg1)).cell (i := 2) rfl) rfl)
  refine Hs.take (v := .int .i64 (seq + 1)) 12 23 rfl ?_ (fun w' hw' => by go_simp; first | done | rfl | omega | exact wrap_in (by omega) (by omega) | exact Int.tmod_eq_emod_of_nonneg (by omega) | exact Int.tdiv_eq_ediv_of_nonneg (by omega) | (simp; omega))
  refine Hs.take (v := .int .i64 ord) 13 24 rfl ?_ (fun _ _ => rfl)
  refine Hs.take (v := .int .i64 lev) 14 25 rfl ?_ (fun _ _ => rfl)
  refine Hs.take (v := .string d) 15 26 rfl ?_ (fun _ _ => rfl)
  refine Hs.take (v := .agg #[.int .i64 fr, .int .i64 boot, .int .i64 (seq + 1), .int .i64 ord, .int .i64 lev, .int .i64 0, .string d]) 16 27 rfl ?_ (fun w' hw' => by go_simp; first | done | rfl | omega | exact wrap_in (by omega) (by omega) | exact Int.tmod_eq_emod_of_nonneg (by omega) | exact Int.tdiv_eq_ediv_of_nonneg (by omega) | (simp; omega))
  refine Hs.only 17 (some 10) rfl ?_
  refine wpList_runTo' rfl (.pointer (some ⟨w1.heap.size, 0, none⟩)) _ run_allocE ?_
  refine Hs.next (.of_below ((Below.refl _ _).alloc (Nat.le_refl _) _)) ?_
  refine Hs.only 18 none rfl ?_
  refine wpList_store_row rfl 35 (.tmp 10) _ rfl w1.heap.size _ rfl rfl _ _ (Blk.newEnt w1.drew 35 zeroE) (by kernel_rfl) (by rfl) (by kernel_rfl) ?_
  refine Hs.next (w' := (w1.drew.alloc (.cells #[.int .i64 0, .int .i64 0, .int .i64 0, .int .i64 0, .int .i64 0, .int .i64 0, .string ⟨#[]⟩] 35)).setRow w1.heap.size #[.int .i64 fr, .int .i64 boot, .int .i64 (seq + 1), .int .i64 ord, .int .i64 lev, .int .i64 0, .string d]) (.of_grown (grown_row _ _ _)) ?_
  refine Hs.done ?_
-- END
  have K10 : Blk ((w1.drew.alloc (.cells #[.int .i64 0, .int .i64 0, .int .i64 0, .int .i64 0, .int .i64 0, .int .i64 0, .string ⟨#[]⟩] 35)).setRow w1.heap.size #[.int .i64 fr, .int .i64 boot, .int .i64 (seq + 1), .int .i64 ord, .int .i64 lev, .int .i64 0, .string d]) w1.heap.size 35 (ecs e) := by
    rw [← HE.out]; exact (Blk.newEnt w1.drew 35 zeroE).row #[.int .i64 fr, .int .i64 boot, .int .i64 (seq + 1), .int .i64 ord, .int .i64 lev, .int .i64 0, .string d]
  have T3 : Touch [w1.heap.size] w1 ((w1.drew.alloc (.cells #[.int .i64 0, .int .i64 0, .int .i64 0, .int .i64 0, .int .i64 0, .int .i64 0, .string ⟨#[]⟩] 35)).setRow w1.heap.size #[.int .i64 fr, .int .i64 boot, .int .i64 (seq + 1), .int .i64 ord, .int .i64 lev, .int .i64 0, .string d]) := ((Touch.refl _ w1).drew.alloc _).trans (.of_grown (grown_row _ _ _))
  have B3' : Below w1.heap.size w1 ((w1.drew.alloc (.cells #[.int .i64 0, .int .i64 0, .int .i64 0, .int .i64 0, .int .i64 0, .int .i64 0, .string ⟨#[]⟩] 35)).setRow w1.heap.size #[.int .i64 fr, .int .i64 boot, .int .i64 (seq + 1), .int .i64 ord, .int .i64 lev, .int .i64 0, .string d]) := T3.below (by simp) (Nat.le_refl _)
  have B3 := Lib.hid B3'
  have E3 := Lib.hid K10
  have hkg : w1.heap.size ≠ g := Nat.ne_of_gt hg1
  clear T3 B3' K10
  generalize hw3 : (w1.drew.alloc (.cells #[.int .i64 0, .int .i64 0, .int .i64 0, .int .i64 0, .int .i64 0, .int .i64 0, .string ⟨#[]⟩] 35)).setRow w1.heap.size #[.int .i64 fr, .int .i64 boot, .int .i64 (seq + 1), .int .i64 ord, .int .i64 lev, .int .i64 0, .string d] = w3 at *
  clear hw3
  have P3 := Lib.hid (HR.out.past B3.out)
  have Z3 := Lib.hid (K8.out.past B3.out)
  have W3 := Lib.hid (BW.out.trans (B3.out.mono (Nat.le_of_lt hk8)))
  clear HB HR K8 BW B3
  obtain ⟨k10, hk10⟩ : ∃ k, w1.heap.size = k := ⟨_, rfl⟩
  rw [hk10] at E3 hkg hg1 hk8 ⊢
  clear hk10
  obtain ⟨d0, d1, d2, d3, d4, d5, d6⟩ := E3.out.ent
  go_wp2_with fail
  clear d0 d1 d2 d3 d4 d5 d6
  refine (rMay_c w3 e).mono ?_
  cases hm : PEnt.may e
  · have HM := Lib.hid hm
    clear hm
    rintro x w4 ⟨rfl, b4⟩
    have hZ := Z3.out.past b4
    have Z5 := Lib.hid (hZ.row #[.int .i64 0, .int .i64 0, .int .i64 0, .int .i64 0, .int .i64 0, .int .i64 0, .string ⟨#[]⟩])
    have W4 := Lib.hid (W3.out.trans (b4.mono (by rw [← HK.out]; exact W3.out.size)))
    have W5 := Lib.hid (W4.out.trans (grown_below (grown_row w4 k8 #[.int .i64 0, .int .i64 0, .int .i64 0, .int .i64 0, .int .i64 0, .int .i64 0, .string ⟨#[]⟩]) (Nat.le_refl _) (by rw [← HK.out]; exact W4.out.size)))
    clear b4
    go_wp2_with ((with_reducible show wpList _ _ _ ((⟨none, Op.store 35 (.tmp 8) _, _, _, _, _⟩ : Oper) :: _) _ _); go_must (refine wpList_store_row rfl 35 (.tmp 8) _ rfl k8 _ rfl rfl _ _ hZ (by kernel_rfl) (by rfl) (by kernel_rfl) ?_))
    refine bodyPost_ret (v := .tuple #[ev zeroE, .int .i64 1]) (results_rowB (p := 8) (u := 9) rfl _ _ k8 _ _ _ _ rfl rfl Z5.out Try.underlying35 rfl (by kernel_rfl)) rfl (.inl ⟨HM.out, rfl, by rw [HK.out]; exact W5.out⟩)
  · have HM := Lib.hid hm
    clear hm
    rintro x w4 ⟨rfl, b4⟩
    have P4 := Lib.hid (P3.out.past b4)
    have Z4 := Lib.hid (Z3.out.past b4)
    have K4 := Lib.hid (E3.out.past b4)
    have W4 := Lib.hid (W3.out.trans (b4.mono (by rw [← HK.out]; exact W3.out.size)))
    clear b4
    obtain ⟨A, c, hB, hO, hF⟩ := P4.out.ex
    have B4 := Lib.hid hB
    have O4 := Lib.hid hO
    have HFA := Lib.hid hF
    have c3 := hB.cell (i := 3) rfl
    clear hB hO hF
    rcases (by omega : 4 ≤ L.length ∨ L.length < 4) with hn | hn
    · have hZ := Z4.out
      have Z5 := Lib.hid (hZ.row #[.int .i64 0, .int .i64 0, .int .i64 0, .int .i64 0, .int .i64 0, .int .i64 0, .string ⟨#[]⟩])
      have W5 := Lib.hid (W4.out.trans (grown_below (grown_row w4 k8 #[.int .i64 0, .int .i64 0, .int .i64 0, .int .i64 0, .int .i64 0, .int .i64 0, .string ⟨#[]⟩]) (Nat.le_refl _) (by rw [← HK.out]; exact W4.out.size)))
      have hn' : (4 : Int) ≤ (L.length : Int) := by omega
      go_wp2_with ((with_reducible show wpList _ _ _ ((⟨none, Op.store 35 (.tmp 8) _, _, _, _, _⟩ : Oper) :: _) _ _); go_must (refine wpList_store_row rfl 35 (.tmp 8) _ rfl k8 _ rfl rfl _ _ hZ (by kernel_rfl) (by rfl) (by kernel_rfl) ?_))
      refine bodyPost_ret (v := .tuple #[ev zeroE, .int .i64 9]) (results_rowB (p := 8) (u := 9) rfl _ _ k8 _ _ _ _ rfl rfl Z5.out Try.underlying35 rfl (by kernel_rfl)) rfl (.inr (.inl ⟨HM.out, hn, rfl, by rw [HK.out]; exact W5.out⟩))
    · have hn4 : (L.length : Int) < 4 := by omega
      have c2 := B4.out.cell (i := 2) rfl
      have f2 := B4.out.free 2
      go_wp2_with fail
      have hAF : ∀ k, bk A = some k → k ∈ F := fun k hk => by rw [HFA.out]; exact List.mem_cons_of_mem _ (mem_bl.2 hk)
      have hA10 : bk A ≠ some k10 := fun hk => by have := HF.out _ (hAF _ hk); omega
      have hA8 : bk A ≠ some k8 := fun hk => by have := HF.out _ (hAF _ hk); omega
      have hAg : bk A ≠ some g := O4.out.ne B4.out (by decide)
      have hk8g : k8 ≠ g := Nat.ne_of_gt hgk
      have TG : Touch [g] w4 (w4.setCell ⟨g, 2, none⟩ (.int .i64 (seq + 1))) := .of_grown (grown_set w4 g 2 (.int .i64 (seq + 1)))
      have B5 := Lib.hid (show Blk (w4.setCell ⟨g, 2, none⟩ (.int .i64 (seq + 1))) g 29 [.int .i64 fr, .int .i64 boot, .int .i64 (seq + 1), .slice A L.length c] from B4.out.set 2 (.int .i64 (seq + 1)))
      have O5 := Lib.hid (O4.out.touch TG (fun s hs => by rw [List.mem_singleton] at hs; subst hs; exact hAg))
      have K5 := Lib.hid (K4.out.touch TG (by rw [List.mem_singleton]; exact hkg))
      have Z5 := Lib.hid (Z4.out.touch TG (by rw [List.mem_singleton]; exact hk8g))
      have T5 := Lib.hid (show Touch [g] w (w4.setCell ⟨g, 2, none⟩ (.int .i64 (seq + 1))) from (Touch.of_below (show Below w.heap.size w w4 from by rw [HK.out]; exact W4.out)).trans TG)
      clear TG P4 B4 O4 K4 Z4 W4 c2 f2 c3
      generalize hw5 : w4.setCell ⟨g, 2, none⟩ (.int .i64 (seq + 1)) = w5 at *
      clear hw5
      have hg5 : g < w5.heap.size := B5.out.lt
      have OA := Lib.hid (show Ow (w5.drew.alloc (.cells (ecs e).toArray 35)) 0 35 7 A L.length c (els L) from O5.out.past (((Below.refl _ w5).drew).alloc (Nat.le_refl _) _))
      have BA := Lib.hid (show Blk (w5.drew.alloc (.cells (ecs e).toArray 35)) g 29 [.int .i64 fr, .int .i64 boot, .int .i64 (seq + 1), .slice A L.length c] from B5.out.drew.alloc _)
      have KA := Lib.hid (show Blk (w5.drew.alloc (.cells (ecs e).toArray 35)) k10 35 (ecs e) from K5.out.drew.alloc _)
      have ZA := Lib.hid (show Blk (w5.drew.alloc (.cells (ecs e).toArray 35)) k8 35 (ecs zeroE) from Z5.out.drew.alloc _)
      have TA := Lib.hid (show Touch [g] w (w5.drew.alloc (.cells (ecs e).toArray 35)) from T5.out.drew.alloc _)
      have KN : Blk (w5.drew.alloc (.cells (ecs e).toArray 35)) w5.heap.size 35 (ecs e) := Blk.new w5.drew _ _
      have RE := Lib.hid (show Rd (w5.drew.alloc (.cells (ecs e).toArray 35)) (w5.drew.alloc (.cells (ecs e).toArray 35)).heap.size (some ⟨w5.heap.size, 0, none⟩) 1 7 1 (ecs e) from
        ⟨rfl, Nat.le_refl _, by unfold maxLen; omega, (fun hh => by cases hh), fun _ => ⟨w5.heap.size, 0, rfl, KN.lt, fun j u hu => by rw [Nat.zero_add]; exact KN.cell hu⟩⟩)
      have hsA : w5.heap.size ≤ (w5.drew.alloc (.cells (ecs e).toArray 35)).heap.size := Nat.le_of_lt KN.lt
      clear KN
      have c3 := B5.out.drew.cell (i := 3) rfl
      have c3' := BA.out.cell (i := 3) rfl
      have hm10 : k10 ∉ g :: bl A := by
        intro hm
        rcases List.mem_cons.1 hm with h | h
        · exact hkg h
        · exact hA10 (mem_bl.1 h)
      have h85 : k8 ≤ w5.heap.size := Nat.le_of_lt Z5.out.lt
      refine Hs.begin (g :: bl A) ?_
      refine Hs.take (v := .pointer (some ⟨g, 0, none⟩)) 0 46 rfl ?_ (fun _ _ => rfl)
      refine Hs.take (v := .pointer (some ⟨g, 0, none⟩)) 1 47 rfl ?_ (fun _ _ => rfl)
      refine Hs.take (v := .pointer (some ⟨g, 0, none⟩)) 2 48 rfl ?_ (fun w' hw' => by go_simp)
      refine Hs.take (v := .pointer (some ⟨g, 3, none⟩)) 3 49 rfl ?_ (fun w' hw' => by go_simp)
      refine Hs.take (v := ev e) 5 51 rfl ?_ (fun w' hw' => by exact run_loadE ((K5.out.drew.touch hw' hm10).range) rfl)
      refine Hs.two 4 6 ?_ ?_
      · refine Hs.pick 4 (some 50) rfl ?_
        refine wpList_runTo' rfl (.slice A L.length c) _ (run_loadEs c3 rfl) ?_
        refine Hs.next (Touch.refl _ _) ?_
        refine Hs.only 6 (some 52) rfl ?_
        refine wpList_buildE rfl (.tmp 51) rfl e rfl ?_
        refine Hs.next (.of_below ((Below.refl _ _).alloc (Nat.le_refl _) _)) ?_
        refine Hs.only 7 (some 53) rfl ?_
        refine wpList_app2 rfl (.tmp 50) (.tmp 52) 23 rfl 0 35 (ev zeroE) 7 64 Try.underlying23 ent_info rfl (by omega) A L.length c (els L) rfl OA.out _ (some ⟨w5.heap.size, 0, none⟩) 1 1 (ecs e) rfl RE.out (ecs_one e) (by unfold maxLen; omega) (by omega) (Nat.zero_le _) ?_
        intro A' c' w6 O6 g6 hA6
        have T6 := Touch.of_bk g6
        have hgA : g ∉ bl A := fun hm => hAg (mem_bl.1 hm)
        have B6 := Lib.hid (BA.out.touch T6 hgA)
        have K6 := Lib.hid (KA.out.touch T6 (fun hm => hA10 (mem_bl.1 hm)))
        have Z6 := Lib.hid (ZA.out.touch T6 (fun hm => hA8 (mem_bl.1 hm)))
        have cc := B6.out.cell (i := 3) rfl
        have ff := B6.out.free 3
        refine Hs.next (T6.wide (fun k hk => List.mem_cons_of_mem _ hk)) ?_
        refine Hs.take (v := .pointer (some ⟨g, 0, none⟩)) 8 54 rfl ?_ (fun w' hw' => by go_simp)
        refine Hs.take (v := .pointer (some ⟨g, 3, none⟩)) 9 55 rfl ?_ (fun w' hw' => by go_simp)
        refine Hs.only 10 none rfl ?_
        refine wpList_skipTo rfl rfl _ (run_storeEs cc ff rfl rfl) ?_
        refine Hs.next ((Touch.refl _ _).cell (List.mem_cons_self ..) _ _) ?_ rfl
        refine Hs.done ?_
        have TG : Touch [g] w6 (w6.setCell ⟨g, 3, none⟩ (.slice A' (L.length + 1) c')) := .of_grown (grown_set w6 g 3 (.slice A' (L.length + 1) c'))
        have hA6g : bk A' ≠ some g := O6.ne B6.out (by decide)
        have B7 := Lib.hid (show Blk (w6.setCell ⟨g, 3, none⟩ (.slice A' (L.length + 1) c')) g 29 [.int .i64 fr, .int .i64 boot, .int .i64 (seq + 1), .slice A' (L.length + 1) c'] from B6.out.set 3 (.slice A' (L.length + 1) c'))
        have O7 := Lib.hid (O6.touch TG (fun s hs => by rw [List.mem_singleton] at hs; subst hs; exact hA6g))
        have K7 := K6.out.touch TG (by rw [List.mem_singleton]; exact hkg)
        have hZ := Z6.out.touch TG (by rw [List.mem_singleton]; exact hk8g)
        have T7 := Lib.hid ((((TA.out.wide (S' := k8 :: g :: bl A) (by simp)).trans (T6.wide (fun k hk => List.mem_cons_of_mem _ (List.mem_cons_of_mem _ hk)))).trans (TG.wide (by simp))).trans ((Touch.of_grown (grown_row _ k8 #[.int .i64 e.fr, .int .i64 e.boot, .int .i64 e.seq, .int .i64 e.ord, .int .i64 e.lev, .int .i64 e.stamp, .string e.data])).wide (by simp)))
        have hA68 : bk A' ≠ some k8 := fun hk => by
          rcases hA6 _ hk with h | h
          · exact hA8 h
          · have := ZA.out.lt
            omega
        have HA6 := Lib.hid hA6
        clear hA6 TG T6 B6 K6 Z6 O6 g6 cc ff
        obtain ⟨e0, e1, e2, e3, e4, e5, e6⟩ := K7.ent
        have Z9 := Lib.hid (hZ.row #[.int .i64 e.fr, .int .i64 e.boot, .int .i64 e.seq, .int .i64 e.ord, .int .i64 e.lev, .int .i64 e.stamp, .string e.data])
        have RN := Lib.hid (show RnW w ((w6.setCell ⟨g, 3, none⟩ (.slice A' (L.length + 1) c')).setRow k8 #[.int .i64 e.fr, .int .i64 e.boot, .int .i64 e.seq, .int .i64 e.ord, .int .i64 e.lev, .int .i64 e.stamp, .string e.data]) g F fr boot (seq + 1) (L ++ [e]) from
          ⟨⟨g :: bl A', ⟨A', c', by
              rw [List.length_append]
              exact B7.out.far (grown_row _ k8 #[.int .i64 e.fr, .int .i64 e.boot, .int .i64 e.seq, .int .i64 e.ord, .int .i64 e.lev, .int .i64 e.stamp, .string e.data]) hk8g.symm, by
              rw [List.length_append, els_append]
              exact O7.out.touch (.of_grown (grown_row _ k8 #[.int .i64 e.fr, .int .i64 e.boot, .int .i64 e.seq, .int .i64 e.ord, .int .i64 e.lev, .int .i64 e.stamp, .string e.data])) (fun s hs => by rw [List.mem_singleton] at hs; subst hs; exact hA68), rfl⟩, fun k hk => by
              rcases List.mem_cons.1 hk with h | h
              · left; rw [HFA.out, h]; exact List.mem_cons_self ..
              · rcases HA6.out k (mem_bl.1 h) with q | q
                · exact .inl (hAF k q)
                · right; rw [HK.out]; omega⟩,
            ⟨T7.out.os, T7.out.tape, T7.out.output, T7.out.size, fun k hk hs => T7.out.block k hk (by
              rw [HFA.out] at hs
              intro hm
              rcases List.mem_cons.1 hm with h | h
              · have := HK.out; omega
              · exact hs h)⟩⟩)
        clear B7 O7 K7 T7 HA6
        go_wp2_with ((with_reducible show wpList _ _ _ ((⟨none, Op.store 35 (.tmp 8) _, _, _, _, _⟩ : Oper) :: _) _ _); go_must (refine wpList_store_row rfl 35 (.tmp 8) _ rfl k8 _ rfl rfl _ _ hZ (by kernel_rfl) (by rfl) (by kernel_rfl) ?_))
        refine bodyPost_ret (v := .tuple #[ev e, .int .i64 0]) (results_rowB (p := 8) (u := 9) rfl _ _ k8 _ _ _ _ rfl rfl Z9.out Try.underlying35 rfl (by kernel_rfl)) rfl (.inr (.inr ⟨HM.out, hn, rfl, RN.out⟩))
      · refine Hs.pick 6 (some 52) rfl ?_
        refine wpList_buildE rfl (.tmp 51) rfl e rfl ?_
        refine Hs.next (.of_below ((Below.refl _ _).alloc (Nat.le_refl _) _)) ?_
        refine Hs.only 4 (some 50) rfl ?_
        refine wpList_runTo' rfl (.slice A L.length c) _ (run_loadEs c3' rfl) ?_
        refine Hs.next (Touch.refl _ _) ?_
        refine Hs.only 7 (some 53) rfl ?_
        refine wpList_app2 rfl (.tmp 50) (.tmp 52) 23 rfl 0 35 (ev zeroE) 7 64 Try.underlying23 ent_info rfl (by omega) A L.length c (els L) rfl OA.out _ (some ⟨w5.heap.size, 0, none⟩) 1 1 (ecs e) rfl RE.out (ecs_one e) (by unfold maxLen; omega) (by omega) (Nat.zero_le _) ?_
        intro A' c' w6 O6 g6 hA6
        have T6 := Touch.of_bk g6
        have hgA : g ∉ bl A := fun hm => hAg (mem_bl.1 hm)
        have B6 := Lib.hid (BA.out.touch T6 hgA)
        have K6 := Lib.hid (KA.out.touch T6 (fun hm => hA10 (mem_bl.1 hm)))
        have Z6 := Lib.hid (ZA.out.touch T6 (fun hm => hA8 (mem_bl.1 hm)))
        have cc := B6.out.cell (i := 3) rfl
        have ff := B6.out.free 3
        refine Hs.next (T6.wide (fun k hk => List.mem_cons_of_mem _ hk)) ?_
        refine Hs.take (v := .pointer (some ⟨g, 0, none⟩)) 8 54 rfl ?_ (fun w' hw' => by go_simp)
        refine Hs.take (v := .pointer (some ⟨g, 3, none⟩)) 9 55 rfl ?_ (fun w' hw' => by go_simp)
        refine Hs.only 10 none rfl ?_
        refine wpList_skipTo rfl rfl _ (run_storeEs cc ff rfl rfl) ?_
        refine Hs.next ((Touch.refl _ _).cell (List.mem_cons_self ..) _ _) ?_ rfl
        refine Hs.done ?_
        have TG : Touch [g] w6 (w6.setCell ⟨g, 3, none⟩ (.slice A' (L.length + 1) c')) := .of_grown (grown_set w6 g 3 (.slice A' (L.length + 1) c'))
        have hA6g : bk A' ≠ some g := O6.ne B6.out (by decide)
        have B7 := Lib.hid (show Blk (w6.setCell ⟨g, 3, none⟩ (.slice A' (L.length + 1) c')) g 29 [.int .i64 fr, .int .i64 boot, .int .i64 (seq + 1), .slice A' (L.length + 1) c'] from B6.out.set 3 (.slice A' (L.length + 1) c'))
        have O7 := Lib.hid (O6.touch TG (fun s hs => by rw [List.mem_singleton] at hs; subst hs; exact hA6g))
        have K7 := K6.out.touch TG (by rw [List.mem_singleton]; exact hkg)
        have hZ := Z6.out.touch TG (by rw [List.mem_singleton]; exact hk8g)
        have T7 := Lib.hid ((((TA.out.wide (S' := k8 :: g :: bl A) (by simp)).trans (T6.wide (fun k hk => List.mem_cons_of_mem _ (List.mem_cons_of_mem _ hk)))).trans (TG.wide (by simp))).trans ((Touch.of_grown (grown_row _ k8 #[.int .i64 e.fr, .int .i64 e.boot, .int .i64 e.seq, .int .i64 e.ord, .int .i64 e.lev, .int .i64 e.stamp, .string e.data])).wide (by simp)))
        have hA68 : bk A' ≠ some k8 := fun hk => by
          rcases hA6 _ hk with h | h
          · exact hA8 h
          · have := ZA.out.lt
            omega
        have HA6 := Lib.hid hA6
        clear hA6 TG T6 B6 K6 Z6 O6 g6 cc ff
        obtain ⟨e0, e1, e2, e3, e4, e5, e6⟩ := K7.ent
        have Z9 := Lib.hid (hZ.row #[.int .i64 e.fr, .int .i64 e.boot, .int .i64 e.seq, .int .i64 e.ord, .int .i64 e.lev, .int .i64 e.stamp, .string e.data])
        have RN := Lib.hid (show RnW w ((w6.setCell ⟨g, 3, none⟩ (.slice A' (L.length + 1) c')).setRow k8 #[.int .i64 e.fr, .int .i64 e.boot, .int .i64 e.seq, .int .i64 e.ord, .int .i64 e.lev, .int .i64 e.stamp, .string e.data]) g F fr boot (seq + 1) (L ++ [e]) from
          ⟨⟨g :: bl A', ⟨A', c', by
              rw [List.length_append]
              exact B7.out.far (grown_row _ k8 #[.int .i64 e.fr, .int .i64 e.boot, .int .i64 e.seq, .int .i64 e.ord, .int .i64 e.lev, .int .i64 e.stamp, .string e.data]) hk8g.symm, by
              rw [List.length_append, els_append]
              exact O7.out.touch (.of_grown (grown_row _ k8 #[.int .i64 e.fr, .int .i64 e.boot, .int .i64 e.seq, .int .i64 e.ord, .int .i64 e.lev, .int .i64 e.stamp, .string e.data])) (fun s hs => by rw [List.mem_singleton] at hs; subst hs; exact hA68), rfl⟩, fun k hk => by
              rcases List.mem_cons.1 hk with h | h
              · left; rw [HFA.out, h]; exact List.mem_cons_self ..
              · rcases HA6.out k (mem_bl.1 h) with q | q
                · exact .inl (hAF k q)
                · right; rw [HK.out]; omega⟩,
            ⟨T7.out.os, T7.out.tape, T7.out.output, T7.out.size, fun k hk hs => T7.out.block k hk (by
              rw [HFA.out] at hs
              intro hm
              rcases List.mem_cons.1 hm with h | h
              · have := HK.out; omega
              · exact hs h)⟩⟩)
        clear B7 O7 K7 T7 HA6
        go_wp2_with ((with_reducible show wpList _ _ _ ((⟨none, Op.store 35 (.tmp 8) _, _, _, _, _⟩ : Oper) :: _) _ _); go_must (refine wpList_store_row rfl 35 (.tmp 8) _ rfl k8 _ rfl rfl _ _ hZ (by kernel_rfl) (by rfl) (by kernel_rfl) ?_))
        refine bodyPost_ret (v := .tuple #[ev e, .int .i64 0]) (results_rowB (p := 8) (u := 9) rfl _ _ k8 _ _ _ _ rfl rfl Z9.out Try.underlying35 rfl (by kernel_rfl)) rfl (.inr (.inr ⟨HM.out, hn, rfl, RN.out⟩))
end Go.Proofs.Ytmlmngoieabjbaa
