/- Contract of the statements' begun. -/
import Derived.Test.YtnhdehbpcgeceaaLogE
namespace Go.Proofs.Ytnhdehbpcgeceaa
open Go.RowKit

def eB : Ent := ⟨1, 1, 1, 0, 0, 5, ⟨#[]⟩⟩
def fB : Ent := ⟨2, 1, 1, 0, 0, 7, ⟨#[]⟩⟩
theorem bg_can : PLog.can [] eB = true := by decide
theorem bg_can2 : PLog.can [eB] fB = true := by decide
theorem bg_no : PLog.can [eB, fB] eB = false := by decide
theorem bg_log : PLog.log [eB] = [eB] := by
  show PLog.add [] eB = [eB]
  unfold PLog.add; rw [bg_can]; rfl
theorem bg_add : PLog.add [eB, fB] eB = [eB, fB] := by unfold PLog.add; rw [bg_no]; rfl
theorem bg_ok : PLog.okPut [eB] 0 [eB, fB] = true := by
  show (PEnt.eqE eB eB && (PLog.can [eB] fB && true)) = true
  rw [PLog.eqE_self, bg_can2]; rfl
theorem bg_put : PLog.put [eB] 0 [eB, fB] = [eB, fB] := by unfold PLog.put; rw [bg_ok]; rfl
theorem bg_has : PLog.has [eB, fB] fB = true := PLog.has_mem (by simp)
theorem bg_front : PLog.front [eB] [eB, fB] = true := (PLog.front_iff _ _).2 ⟨[fB], rfl⟩
theorem bg_back : PLog.front [eB, fB] [eB] = false := by
  cases h : PLog.front [eB, fB] [eB]
  · rfl
  · have := ((PLog.front_iff _ _).1 h).length_le
    simp at this
theorem run_loadN {w : World} {dst : Option Tmp} {x : Operand} {ty : TypeId} {pos : String} {after : Array Edge} {guard : Option (Nat × Bool)} {ρ : Operand → Value} {p : Addr} {k : Int}
    (h : w.cell? p = some (.int .i64 k)) (hx : ρ x = .pointer (some p)) : (execOp ρ { dst, op := .load 3 x, type := ty, pos, after, guard }).run Try.prog w = .ok (.value (.int .i64 k)) w := by
  go_simp
/-- '[]api.Entry{e, f}' in a region that draws. -/
theorem wpList_buildE2 {w : World} {ops : Array Oper} {rest : List Oper} {o : Oper} {a : Act} {Q : Exit → Act → World → Prop} (hgd : o.guard = none) (x y : Operand) (ho : o.op = .buildSlice 22 2 #[(0, x), (1, y)]) (e f : Ent) (hx : a.eval x = ev e) (hy : a.eval y = ev f)
    (h : wpList Try.prog ops Q rest (a.put o.dst (.slice (some ⟨w.heap.size, 0, none⟩) 2 2)) (w.alloc (.cells (els [e, f]).toArray 34))) : wpList Try.prog ops Q (o :: rest) a w := by
  obtain ⟨i, hi0, hz, hk, -⟩ := info_parts ent_info
  refine wpList_buildSlice hgd 22 34 2 _ ho (els [e, f]).toArray i (ev zeroE) Try.underlying22 hi0 hz (by rw [hk]; omega) (by rw [hk]; omega) ?_ h
  rw [hk]
  have hb : (Array.range (2 * 7)).map (fun x => (ev zeroE).cells[x % (ev zeroE).cells.size]!) = (els [zeroE, zeroE]).toArray := by kernel_rfl
  rw [hb]
  simp [Instr.fill, ev, ecs, els, Value.cells, hx, hy]

set_option maxHeartbeats 8000000 in
set_option maxRecDepth 100000 in
theorem begun_c (w : World) :
    Calls Try.prog 11 #[] w fun x w' => x = .returned (.bool true) ∧ Below w.heap.size w w' := by
  go_enter Try.func11, Try.ntmps11
  go_wp2_with fail
  have s1 : (w.alloc (.cells #[.int .i64 1, .int .i64 1, .int .i64 1, .int .i64 0, .int .i64 0, .int .i64 5, .string ⟨#[]⟩] 34)).heap.size = w.heap.size + 1 := by simp
  have s2 : ((w.alloc (.cells #[.int .i64 1, .int .i64 1, .int .i64 1, .int .i64 0, .int .i64 0, .int .i64 5, .string ⟨#[]⟩] 34)).alloc (.cells #[.int .i64 2, .int .i64 1, .int .i64 1, .int .i64 0, .int .i64 0, .int .i64 7, .string ⟨#[]⟩] 34)).heap.size = w.heap.size + 1 + 1 := by simp
  have b0 := (((Below.refl w.heap.size w).alloc (Nat.le_refl _) (.cells #[.int .i64 1, .int .i64 1, .int .i64 1, .int .i64 0, .int .i64 0, .int .i64 5, .string ⟨#[]⟩] 34)).alloc (by rw [s1]; omega) (.cells #[.int .i64 2, .int .i64 1, .int .i64 1, .int .i64 0, .int .i64 0, .int .i64 7, .string ⟨#[]⟩] 34)).alloc (by rw [s2]; omega) (.cells #[.int .i64 1, .int .i64 1, .int .i64 1, .int .i64 0, .int .i64 0, .int .i64 5, .string ⟨#[]⟩] 34)
  have k1 := ((Blk.newEnt w 34 eB).alloc (.cells #[.int .i64 2, .int .i64 1, .int .i64 1, .int .i64 0, .int .i64 0, .int .i64 7, .string ⟨#[]⟩] 34)).alloc (.cells #[.int .i64 1, .int .i64 1, .int .i64 1, .int .i64 0, .int .i64 0, .int .i64 5, .string ⟨#[]⟩] 34)
  have k2 := Blk.newEnt (w.alloc (.cells #[.int .i64 1, .int .i64 1, .int .i64 1, .int .i64 0, .int .i64 0, .int .i64 5, .string ⟨#[]⟩] 34)) 34 fB
  rw [s1] at k2
  have k3 := k2.alloc (.cells #[.int .i64 1, .int .i64 1, .int .i64 1, .int .i64 0, .int .i64 0, .int .i64 5, .string ⟨#[]⟩] 34)
  have r0 := Rd.new ((w.alloc (.cells #[.int .i64 1, .int .i64 1, .int .i64 1, .int .i64 0, .int .i64 0, .int .i64 5, .string ⟨#[]⟩] 34)).alloc (.cells #[.int .i64 2, .int .i64 1, .int .i64 1, .int .i64 0, .int .i64 0, .int .i64 7, .string ⟨#[]⟩] 34)) #[.int .i64 1, .int .i64 1, .int .i64 1, .int .i64 0, .int .i64 0, .int .i64 5, .string ⟨#[]⟩] 34 7 1 rfl (by unfold maxLen; omega)
  rw [s2] at r0
  have R0 : Hid (Rd (((w.alloc (.cells #[.int .i64 1, .int .i64 1, .int .i64 1, .int .i64 0, .int .i64 0, .int .i64 5, .string ⟨#[]⟩] 34)).alloc (.cells #[.int .i64 2, .int .i64 1, .int .i64 1, .int .i64 0, .int .i64 0, .int .i64 7, .string ⟨#[]⟩] 34)).alloc (.cells #[.int .i64 1, .int .i64 1, .int .i64 1, .int .i64 0, .int .i64 0, .int .i64 5, .string ⟨#[]⟩] 34)) (w.heap.size + 1 + 1 + 1) (some ⟨w.heap.size + 1 + 1, 0, none⟩) 1 7 1 (els [eB])) := Lib.hid r0
  have KE : Hid (Blk (((w.alloc (.cells #[.int .i64 1, .int .i64 1, .int .i64 1, .int .i64 0, .int .i64 0, .int .i64 5, .string ⟨#[]⟩] 34)).alloc (.cells #[.int .i64 2, .int .i64 1, .int .i64 1, .int .i64 0, .int .i64 0, .int .i64 7, .string ⟨#[]⟩] 34)).alloc (.cells #[.int .i64 1, .int .i64 1, .int .i64 1, .int .i64 0, .int .i64 0, .int .i64 5, .string ⟨#[]⟩] 34)) w.heap.size 34 (ecs eB)) := Lib.hid k1
  have KF : Hid (Blk (((w.alloc (.cells #[.int .i64 1, .int .i64 1, .int .i64 1, .int .i64 0, .int .i64 0, .int .i64 5, .string ⟨#[]⟩] 34)).alloc (.cells #[.int .i64 2, .int .i64 1, .int .i64 1, .int .i64 0, .int .i64 0, .int .i64 7, .string ⟨#[]⟩] 34)).alloc (.cells #[.int .i64 1, .int .i64 1, .int .i64 1, .int .i64 0, .int .i64 0, .int .i64 5, .string ⟨#[]⟩] 34)) (w.heap.size + 1) 34 (ecs fB)) := Lib.hid k3
  have B0 : Hid (Below w.heap.size w (((w.alloc (.cells #[.int .i64 1, .int .i64 1, .int .i64 1, .int .i64 0, .int .i64 0, .int .i64 5, .string ⟨#[]⟩] 34)).alloc (.cells #[.int .i64 2, .int .i64 1, .int .i64 1, .int .i64 0, .int .i64 0, .int .i64 7, .string ⟨#[]⟩] 34)).alloc (.cells #[.int .i64 1, .int .i64 1, .int .i64 1, .int .i64 0, .int .i64 0, .int .i64 5, .string ⟨#[]⟩] 34))) := Lib.hid b0
  clear r0 k1 k2 k3 b0 s1 s2
  generalize (((w.alloc (.cells #[.int .i64 1, .int .i64 1, .int .i64 1, .int .i64 0, .int .i64 0, .int .i64 5, .string ⟨#[]⟩] 34)).alloc (.cells #[.int .i64 2, .int .i64 1, .int .i64 1, .int .i64 0, .int .i64 0, .int .i64 7, .string ⟨#[]⟩] 34)).alloc (.cells #[.int .i64 1, .int .i64 1, .int .i64 1, .int .i64 0, .int .i64 0, .int .i64 5, .string ⟨#[]⟩] 34)) = w3 at *
  refine (New_c w3 _ _ 1 1 [eB] R0.out).mono ?_
  rw [bg_log]
  rintro x w4 ⟨g, F, rfl, l4, f4, b4⟩
  have LE := Lib.hid KE.out.lt
  have LF := Lib.hid KF.out.lt
  have S3 := Lib.hid B0.out.size
  have S4 := Lib.hid (show w3.heap.size ≤ w4.drew.heap.size from b4.size)
  have L4 := Lib.hid l4
  have LG := Lib.hid (show Lg w4.drew g F [eB] from l4.drew)
  have HF := Lib.hid f4
  have B0 := Lib.hid (show Below w.heap.size w w4.drew from (B0.out.trans (b4.mono B0.out.size)).drew)
  have KE := Lib.hid (show Blk w4.drew w.heap.size 34 (ecs eB) from (KE.out.past b4).drew)
  have KF := Lib.hid (show Blk w4.drew (w.heap.size + 1) 34 (ecs fB) from (KF.out.past b4).drew)
  clear l4 f4 b4 R0
  go_wp2_with fail
-- REGION curfew/curfewlaw13.begun 6 begun6 2
  refine Hb.beginB (B := w3.heap.size) ?_
  refine Hb.take (v := .pointer (some ⟨g, 0, none⟩)) 0 15 rfl ?_ (fun _ _ => rfl)
  refine Hb.take (v := ev eB) 1 16 rfl ?_ (fun w' hw' => by exact run_loadE ((KE.out.below hw' LE.out).range) rfl)
  refine Hb.take (v := ev fB) 2 17 rfl ?_ (fun w' hw' => by exact run_loadE ((KF.out.below hw' LF.out).range) rfl)
  refine Hb.take (v := .pointer (some ⟨g, 0, none⟩)) 5 20 rfl ?_ (fun _ _ => rfl)
  refine Hb.take (v := ev eB) 6 21 rfl ?_ (fun w' hw' => by exact run_loadE ((KE.out.below hw' LE.out).range) rfl)
  refine Hb.only 3 (some 18) rfl ?_
  refine wpList_buildE2 rfl (.tmp 16) (.tmp 17) rfl eB fB rfl rfl ?_
  have b5 := (Below.refl w4.drew.heap.size w4.drew).alloc (Nat.le_refl _) (.cells (els [eB, fB]).toArray 34)
  have LG := Lib.hid (LG.out.past b5)
  have KE := Lib.hid (KE.out.past b5)
  have KF := Lib.hid (KF.out.past b5)
  have RN := Lib.hid (Rd.new w4.drew (els [eB, fB]).toArray 34 7 2 rfl (by unfold maxLen; omega))
  have DJ := Lib.hid (show 0 < 2 * 7 → ∀ q ∈ F, bk (some ⟨w4.drew.heap.size, 0, none⟩) ≠ some q from fun _ q hq e => by
    have h1 := L4.out.hi q hq
    have h2 : w4.drew.heap.size = q := by simpa [bk] using e
    have h3 : w4.drew.heap.size = w4.heap.size := rfl
    omega)
  have BN := Lib.hid (b5.mono S4.out)
  have B0 := Lib.hid (B0.out.trans (BN.out.mono S3.out))
  refine Hb.next BN.out (Nat.le_refl _) ?_ (by simp only [Act.put, List.setIfInBounds_toArray, List.set_cons_succ, List.set_cons_zero]; rfl)
  generalize w4.drew.alloc (.cells (els [eB, fB]).toArray 34) = w5 at *
  refine Hb.call (f := 18) (args := #[.pointer (some ⟨g, 0, none⟩), .int .i64 0, .slice (some ⟨w4.drew.heap.size, 0, none⟩) 2 2]) 4 19 rfl ?_ (run_callf Try.func18 (by kernel_rfl) (by kernel_rfl) (by simp only [List.map_toArray, List.map_cons, List.map_nil]; rfl))
  refine (show Calls Try.prog 18 #[.pointer (some ⟨g, 0, none⟩), .int .i64 0, .slice (some ⟨w4.drew.heap.size, 0, none⟩) 2 2] w5 _ from Put_in w5 g F [eB] LG.out 0 (Nat.zero_le _) _ _ 2 2 [eB, fB] RN.out DJ.out).mono ?_
  rw [bg_put, bg_ok]
  rintro x w6 ⟨rfl, ⟨⟨F6, l6, f6⟩, t6⟩⟩
  have b6 := t6.below HF.out (show w3.heap.size ≤ w5.heap.size from Nat.le_trans S4.out BN.out.size)
  have S6 := Lib.hid (Nat.le_trans S4.out (Nat.le_trans BN.out.size b6.size))
  have HF6 := Lib.hid (show ∀ k ∈ F6, w3.heap.size ≤ k from fun k hk => (f6 k hk).elim (HF.out k) (fun h => Nat.le_trans (Nat.le_trans S4.out BN.out.size) h))
  have LG := Lib.hid l6
  have KE := Lib.hid (KE.out.below b6 LE.out)
  have KF := Lib.hid (KF.out.below b6 LF.out)
  have B0 := Lib.hid (B0.out.trans (b6.mono S3.out))
  refine Hb.back b6 (Nat.le_refl _) ?_
  refine Hb.call (f := 16) (args := #[.pointer (some ⟨g, 0, none⟩), ev eB]) 7 22 rfl ?_ (run_callf Try.func16 (by kernel_rfl) (by kernel_rfl) (by simp only [List.map_toArray, List.map_cons, List.map_nil]; rfl))
  refine (Add_c w6 g F6 [eB, fB] LG.out eB).mono ?_
  rw [bg_no, bg_add]
  rintro x w7 ⟨rfl, ⟨⟨F7, l7, f7⟩, t7⟩⟩
  have b7 := t7.below HF6.out S6.out
  have LG := Lib.hid l7
  have KE := Lib.hid (KE.out.below b7 LE.out)
  have KF := Lib.hid (KF.out.below b7 LF.out)
  have B0 := Lib.hid (B0.out.trans (b7.mono S3.out))
  refine Hb.back b7 (Nat.le_refl _) ?_
  refine Hb.take (v := .bool true) 8 4 rfl ?_ (fun _ _ => rfl)
  refine Hb.take (v := .bool false) 9 5 rfl ?_ (fun _ _ => rfl)
  refine Hb.done ?_
-- END
  clear L4 HF HF6 S4 S6 RN DJ BN l6 f6 t6 b6 l7 f7 t7 b7
  go_wp2_with fail
  refine (show Calls Try.prog 23 #[.pointer (some ⟨g, 0, none⟩), .int .i64 2] w7 _ from At_in w7 g F7 [eB, fB] LG.out 1 fB rfl).mono ?_
  rintro x w8 ⟨rfl, b8⟩
  have b9 := (Below.refl w8.heap.size w8).alloc (Nat.le_refl _) (.cells #[.int .i64 2, .int .i64 1, .int .i64 1, .int .i64 0, .int .i64 0, .int .i64 7, .string ⟨#[]⟩] 34)
  have KX : Hid (Blk (w8.alloc (.cells #[.int .i64 2, .int .i64 1, .int .i64 1, .int .i64 0, .int .i64 0, .int .i64 7, .string ⟨#[]⟩] 34)) w8.heap.size 34 (ecs fB)) := Lib.hid (Blk.newEnt w8 34 fB)
  have LG := Lib.hid ((LG.out.past b8).past b9)
  have KE := Lib.hid ((KE.out.past b8).past b9)
  have KF := Lib.hid ((KF.out.past b8).past b9)
  have B8 := Lib.hid (B0.out.trans ((b8.trans (b9.mono b8.size)).mono B0.out.size))
  clear b8 b9 B0 LE LF S3
  simp only [ev, fB]
  go_wp2_with fail
  generalize hw9 : (w8.alloc (.cells #[.int .i64 2, .int .i64 1, .int .i64 1, .int .i64 0, .int .i64 0, .int .i64 7, .string ⟨#[]⟩] 34)) = w9 at *
  clear hw9
  have KX := Lib.hid (show Blk w9.drew w8.heap.size 34 (ecs fB) from KX.out)
  have LX := Lib.hid KX.out.lt
  have LG := Lib.hid (show Lg w9.drew g F7 [eB, fB] from LG.out.drew)
  have KE := Lib.hid (show Blk w9.drew w.heap.size 34 (ecs eB) from KE.out)
  have KF := Lib.hid (show Blk w9.drew (w.heap.size + 1) 34 (ecs fB) from KF.out)
  have LE8 := Lib.hid KE.out.lt
  have LF8 := Lib.hid KF.out.lt
  have BN := Lib.hid (Below.refl w9.drew.heap.size w9.drew)
  refine Hb.begin ?_
  refine Hb.take (v := .bool true) 0 28 rfl ?_ (fun _ _ => rfl)
  refine Hb.take (v := .bool true) 1 29 rfl ?_ (fun _ _ => rfl)
  refine Hb.take (v := .bool false) 2 30 rfl ?_ (fun _ _ => rfl)
  refine Hb.take (v := .bool true) 3 31 rfl ?_ (fun w' hw' => by go_simp; first | done | rfl | omega | (simp; omega))
  refine Hb.take (v := .bool true) 4 32 rfl ?_ (fun _ _ => rfl)
  refine Hb.take (v := .bool true) 5 33 rfl ?_ (fun _ _ => rfl)
  refine Hb.take (v := .bool true) 6 34 rfl ?_ (fun _ _ => rfl)
  refine Hb.take (v := .bool true) 7 35 rfl ?_ (fun _ _ => rfl)
  refine Hb.take (v := .bool true) 8 36 rfl ?_ (fun _ _ => rfl)
  refine Hb.take (v := .pointer (some ⟨w8.heap.size, 0, none⟩)) 9 37 rfl ?_ (fun w' hw' => by go_simp; first | done | rfl | omega | (simp; omega))
  refine Hb.take (v := .int .i64 2) 10 38 rfl ?_ (fun w' hw' => by exact run_loadN ((hw'.cell (p := ⟨w8.heap.size, 0, none⟩) LX.out).trans (KX.out.cell (i := 0) rfl)) rfl)
  refine Hb.take (v := .bool true) 11 39 rfl ?_ (fun w' hw' => by go_simp; first | done | rfl | omega | (simp; omega))
  refine Hb.take (v := .bool true) 12 40 rfl ?_ (fun _ _ => rfl)
  refine Hb.take (v := .bool true) 13 41 rfl ?_ (fun _ _ => rfl)
  refine Hb.take (v := .pointer (some ⟨g, 0, none⟩)) 14 42 rfl ?_ (fun _ _ => rfl)
  refine Hb.call (f := 22) (args := #[.pointer (some ⟨g, 0, none⟩)]) 15 43 rfl ?_ (run_callf Try.func22 (by kernel_rfl) (by kernel_rfl) (by simp only [List.map_toArray, List.map_cons, List.map_nil]; rfl))
  refine (Len_c _ g F7 [eB, fB] LG.out).mono ?_
  rintro x w10 ⟨rfl, rfl⟩
  refine Hb.back (Below.refl _ _) (Nat.le_refl _) ?_
  refine Hb.take (v := .bool true) 16 44 rfl ?_ (fun w' hw' => by go_simp; first | done | rfl | omega | (simp; omega))
  refine Hb.take (v := .bool true) 17 45 rfl ?_ (fun _ _ => rfl)
  refine Hb.take (v := .bool true) 18 46 rfl ?_ (fun _ _ => rfl)
  refine Hb.take (v := .pointer (some ⟨g, 0, none⟩)) 19 47 rfl ?_ (fun _ _ => rfl)
  refine Hb.take (v := ev fB) 20 48 rfl ?_ (fun w' hw' => by exact run_loadE ((KF.out.below hw' LF8.out).range) rfl)
  refine Hb.call (f := 24) (args := #[.pointer (some ⟨g, 0, none⟩), ev fB]) 21 49 rfl ?_ (run_callf Try.func24 (by kernel_rfl) (by kernel_rfl) (by simp only [List.map_toArray, List.map_cons, List.map_nil]; rfl))
  refine (Has_c _ g F7 [eB, fB] LG.out fB).mono ?_
  rw [bg_has]
  rintro x w11 ⟨rfl, b11⟩
  have BN0 := BN.out.size
  have LG := Lib.hid (LG.out.past b11)
  have KE := Lib.hid (KE.out.past b11)
  have KF := Lib.hid (KF.out.past b11)
  have BN := Lib.hid (BN.out.trans (b11.mono BN.out.size))
  refine Hb.back (b11.mono BN0) (Nat.le_refl _) ?_
  clear BN0
  refine Hb.take (v := .bool true) 22 50 rfl ?_ (fun _ _ => rfl)
  refine Hb.take (v := .bool true) 23 51 rfl ?_ (fun _ _ => rfl)
  refine Hb.take (v := .pointer (some ⟨g, 0, none⟩)) 24 52 rfl ?_ (fun _ _ => rfl)
  refine Hb.call (f := 25) (args := #[.pointer (some ⟨g, 0, none⟩), .int .i64 1]) 25 53 rfl ?_ (run_callf Try.func25 (by kernel_rfl) (by kernel_rfl) (by simp only [List.map_toArray, List.map_cons, List.map_nil]; rfl))
  refine (show Calls Try.prog 25 #[.pointer (some ⟨g, 0, none⟩), .int .i64 1] w11 _ from From_in w11 g F7 [eB, fB] LG.out 1 (by decide)).mono ?_
  rintro x w12 ⟨A12, c12, rfl, -, b12⟩
  have BN0 := BN.out.size
  have LG := Lib.hid (LG.out.past b12)
  have KE := Lib.hid (KE.out.past b12)
  have KF := Lib.hid (KF.out.past b12)
  have BN := Lib.hid (BN.out.trans (b12.mono BN.out.size))
  refine Hb.back (b12.mono BN0) (Nat.le_refl _) ?_
  clear BN0
  refine Hb.take (v := .int .i64 1) 26 54 rfl ?_ (fun w' hw' => by go_simp; first | done | rfl | omega | (simp; omega))
  refine Hb.take (v := .bool true) 27 55 rfl ?_ (fun w' hw' => by go_simp; first | done | rfl | omega | (simp; omega))
  refine Hb.take (v := .bool true) 28 56 rfl ?_ (fun _ _ => rfl)
  refine Hb.take (v := .bool true) 29 57 rfl ?_ (fun _ _ => rfl)
  refine Hb.take (v := ev eB) 30 58 rfl ?_ (fun w' hw' => by exact run_loadE ((KE.out.below hw' LE8.out).range) rfl)
  refine Hb.take (v := .pointer (some ⟨g, 0, none⟩)) 32 60 rfl ?_ (fun _ _ => rfl)
  refine Hb.two 31 33 ?_ ?_
  · refine Hb.pick 31 (some 59) rfl ?_
    refine wpList_buildE rfl (.tmp 58) rfl eB rfl ?_
    have b13 := (Below.refl w12.heap.size w12).alloc (Nat.le_refl _) (.cells (ecs eB).toArray 34)
    have R13 := Lib.hid (Rd.new w12 (ecs eB).toArray 34 7 1 rfl (by unfold maxLen; omega))
    have BN0 := BN.out.size
    have LG := Lib.hid (LG.out.past b13)
    have KE := Lib.hid (KE.out.past b13)
    have KF := Lib.hid (KF.out.past b13)
    have BN := Lib.hid (BN.out.trans (b13.mono BN.out.size))
    refine Hb.next (b13.mono BN0) (Nat.le_refl _) ?_ (by simp only [Act.put, List.setIfInBounds_toArray, List.set_cons_succ, List.set_cons_zero]; rfl)
    clear BN0
    obtain ⟨nb13, eb13⟩ : ∃ x, w12.heap.size = x := ⟨_, rfl⟩
    rw [eb13] at R13 ⊢
    generalize w12.alloc (.cells (ecs eB).toArray 34) = w13 at *
    clear eb13
    refine Hb.call (f := 25) (args := #[.pointer (some ⟨g, 0, none⟩), .int .i64 0]) 33 61 rfl ?_ (run_callf Try.func25 (by kernel_rfl) (by kernel_rfl) (by simp only [List.map_toArray, List.map_cons, List.map_nil]; rfl))
    refine (From_0 w13 g F7 [eB, fB] LG.out).mono ?_
    rintro x w14 ⟨A14, c14, rfl, ob14, b14⟩
    have R14 := Lib.hid (Rd.of_own ob14)
    have BN0 := BN.out.size
    have LG := Lib.hid (LG.out.past b14)
    have KE := Lib.hid (KE.out.past b14)
    have KF := Lib.hid (KF.out.past b14)
    have R13 := Lib.hid (R13.out.past b14)
    have BN := Lib.hid (BN.out.trans (b14.mono BN.out.size))
    refine Hb.back (b14.mono BN0) (Nat.le_refl _) ?_
    clear BN0 ob14
    refine Hb.call (f := 21) (args := #[.slice (some ⟨nb13, 0, none⟩) 1 1, .slice A14 2 c14]) 34 62 rfl ?_ (run_callf Try.func21 (by kernel_rfl) (by kernel_rfl) (by simp only [List.map_toArray, List.map_cons, List.map_nil]; rfl))
    refine (Front_c w14 _ _ (some ⟨nb13, 0, none⟩) A14 1 1 c14 2 [eB] [eB, fB] R13.out R14.out).mono ?_
    rw [bg_front]
    rintro x w15 ⟨rfl, b15⟩
    have BN0 := BN.out.size
    have LG := Lib.hid (LG.out.past b15)
    have KE := Lib.hid (KE.out.past b15)
    have KF := Lib.hid (KF.out.past b15)
    have BN := Lib.hid (BN.out.trans (b15.mono BN.out.size))
    refine Hb.back (b15.mono BN0) (Nat.le_refl _) ?_
    clear BN0
    refine Hb.take (v := .bool true) 35 63 rfl ?_ (fun _ _ => rfl)
    refine Hb.take (v := .bool true) 36 64 rfl ?_ (fun _ _ => rfl)
    refine Hb.take (v := .pointer (some ⟨g, 0, none⟩)) 37 65 rfl ?_ (fun _ _ => rfl)
    refine Hb.take (v := ev eB) 39 67 rfl ?_ (fun w' hw' => by exact run_loadE ((KE.out.below hw' LE8.out).range) rfl)
    refine Hb.two 38 40 ?_ ?_
    · refine Hb.pickCall (f := 25) (args := #[.pointer (some ⟨g, 0, none⟩), .int .i64 0]) 38 66 rfl ?_ (run_callf Try.func25 (by kernel_rfl) (by kernel_rfl) (by simp only [List.map_toArray, List.map_cons, List.map_nil]; rfl))
      refine (From_0 w15 g F7 [eB, fB] LG.out).mono ?_
      rintro x w16 ⟨A16, c16, rfl, ob16, b16⟩
      have R16 := Lib.hid (Rd.of_own ob16)
      have BN0 := BN.out.size
      have LG := Lib.hid (LG.out.past b16)
      have KE := Lib.hid (KE.out.past b16)
      have KF := Lib.hid (KF.out.past b16)
      have BN := Lib.hid (BN.out.trans (b16.mono BN.out.size))
      refine Hb.back (b16.mono BN0) (Nat.le_refl _) ?_
      clear BN0 ob16
      refine Hb.only 40 (some 68) rfl ?_
      refine wpList_buildE rfl (.tmp 67) rfl eB rfl ?_
      have b17 := (Below.refl w16.heap.size w16).alloc (Nat.le_refl _) (.cells (ecs eB).toArray 34)
      have R17 := Lib.hid (Rd.new w16 (ecs eB).toArray 34 7 1 rfl (by unfold maxLen; omega))
      have BN0 := BN.out.size
      have LG := Lib.hid (LG.out.past b17)
      have KE := Lib.hid (KE.out.past b17)
      have KF := Lib.hid (KF.out.past b17)
      have R16 := Lib.hid (R16.out.past b17)
      have BN := Lib.hid (BN.out.trans (b17.mono BN.out.size))
      refine Hb.next (b17.mono BN0) (Nat.le_refl _) ?_ (by simp only [Act.put, List.setIfInBounds_toArray, List.set_cons_succ, List.set_cons_zero]; rfl)
      clear BN0
      obtain ⟨nb17, eb17⟩ : ∃ x, w16.heap.size = x := ⟨_, rfl⟩
      rw [eb17] at R17 ⊢
      generalize w16.alloc (.cells (ecs eB).toArray 34) = w17 at *
      clear eb17
      refine Hb.call (f := 21) (args := #[.slice A16 2 c16, .slice (some ⟨nb17, 0, none⟩) 1 1]) 41 69 rfl ?_ (run_callf Try.func21 (by kernel_rfl) (by kernel_rfl) (by simp only [List.map_toArray, List.map_cons, List.map_nil]; rfl))
      refine (Front_c w17 _ _ A16 (some ⟨nb17, 0, none⟩) c16 2 1 1 [eB, fB] [eB] R16.out R17.out).mono ?_
      rw [bg_back]
      rintro x w18 ⟨rfl, b18⟩
      have BN0 := BN.out.size
      have LG := Lib.hid (LG.out.past b18)
      have KE := Lib.hid (KE.out.past b18)
      have KF := Lib.hid (KF.out.past b18)
      have BN := Lib.hid (BN.out.trans (b18.mono BN.out.size))
      refine Hb.back (b18.mono BN0) (Nat.le_refl _) ?_
      clear BN0
      refine Hb.take (v := .bool true) 42 70 rfl ?_ (fun w' hw' => by go_simp; first | done | rfl | omega | (simp; omega))
      refine Hb.take (v := .bool true) 43 71 rfl ?_ (fun _ _ => rfl)
      refine Hb.take (v := .bool true) 44 0 rfl ?_ (fun _ _ => rfl)
      refine Hb.done ?_
      go_wp2_with fail
      go_ret
      exact ⟨rfl, B8.out.drew.trans (BN.out.mono B8.out.size)⟩
    · refine Hb.pick 40 (some 68) rfl ?_
      refine wpList_buildE rfl (.tmp 67) rfl eB rfl ?_
      have b16 := (Below.refl w15.heap.size w15).alloc (Nat.le_refl _) (.cells (ecs eB).toArray 34)
      have R17 := Lib.hid (Rd.new w15 (ecs eB).toArray 34 7 1 rfl (by unfold maxLen; omega))
      have BN0 := BN.out.size
      have LG := Lib.hid (LG.out.past b16)
      have KE := Lib.hid (KE.out.past b16)
      have KF := Lib.hid (KF.out.past b16)
      have BN := Lib.hid (BN.out.trans (b16.mono BN.out.size))
      refine Hb.next (b16.mono BN0) (Nat.le_refl _) ?_ (by simp only [Act.put, List.setIfInBounds_toArray, List.set_cons_succ, List.set_cons_zero]; rfl)
      clear BN0
      obtain ⟨nb16, eb16⟩ : ∃ x, w15.heap.size = x := ⟨_, rfl⟩
      rw [eb16] at R17 ⊢
      generalize w15.alloc (.cells (ecs eB).toArray 34) = w16 at *
      clear eb16
      refine Hb.call (f := 25) (args := #[.pointer (some ⟨g, 0, none⟩), .int .i64 0]) 38 66 rfl ?_ (run_callf Try.func25 (by kernel_rfl) (by kernel_rfl) (by simp only [List.map_toArray, List.map_cons, List.map_nil]; rfl))
      refine (From_0 w16 g F7 [eB, fB] LG.out).mono ?_
      rintro x w17 ⟨A16, c16, rfl, ob17, b17⟩
      have R16 := Lib.hid (Rd.of_own ob17)
      have BN0 := BN.out.size
      have LG := Lib.hid (LG.out.past b17)
      have KE := Lib.hid (KE.out.past b17)
      have KF := Lib.hid (KF.out.past b17)
      have R17 := Lib.hid (R17.out.past b17)
      have BN := Lib.hid (BN.out.trans (b17.mono BN.out.size))
      refine Hb.back (b17.mono BN0) (Nat.le_refl _) ?_
      clear BN0 ob17
      refine Hb.call (f := 21) (args := #[.slice A16 2 c16, .slice (some ⟨nb16, 0, none⟩) 1 1]) 41 69 rfl ?_ (run_callf Try.func21 (by kernel_rfl) (by kernel_rfl) (by simp only [List.map_toArray, List.map_cons, List.map_nil]; rfl))
      refine (Front_c w17 _ _ A16 (some ⟨nb16, 0, none⟩) c16 2 1 1 [eB, fB] [eB] R16.out R17.out).mono ?_
      rw [bg_back]
      rintro x w18 ⟨rfl, b18⟩
      have BN0 := BN.out.size
      have LG := Lib.hid (LG.out.past b18)
      have KE := Lib.hid (KE.out.past b18)
      have KF := Lib.hid (KF.out.past b18)
      have BN := Lib.hid (BN.out.trans (b18.mono BN.out.size))
      refine Hb.back (b18.mono BN0) (Nat.le_refl _) ?_
      clear BN0
      refine Hb.take (v := .bool true) 42 70 rfl ?_ (fun w' hw' => by go_simp; first | done | rfl | omega | (simp; omega))
      refine Hb.take (v := .bool true) 43 71 rfl ?_ (fun _ _ => rfl)
      refine Hb.take (v := .bool true) 44 0 rfl ?_ (fun _ _ => rfl)
      refine Hb.done ?_
      go_wp2_with fail
      go_ret
      exact ⟨rfl, B8.out.drew.trans (BN.out.mono B8.out.size)⟩
  · refine Hb.pickCall (f := 25) (args := #[.pointer (some ⟨g, 0, none⟩), .int .i64 0]) 33 61 rfl ?_ (run_callf Try.func25 (by kernel_rfl) (by kernel_rfl) (by simp only [List.map_toArray, List.map_cons, List.map_nil]; rfl))
    refine (From_0 w12 g F7 [eB, fB] LG.out).mono ?_
    rintro x w13 ⟨A14, c14, rfl, ob13, b13⟩
    have R14 := Lib.hid (Rd.of_own ob13)
    have BN0 := BN.out.size
    have LG := Lib.hid (LG.out.past b13)
    have KE := Lib.hid (KE.out.past b13)
    have KF := Lib.hid (KF.out.past b13)
    have BN := Lib.hid (BN.out.trans (b13.mono BN.out.size))
    refine Hb.back (b13.mono BN0) (Nat.le_refl _) ?_
    clear BN0 ob13
    refine Hb.only 31 (some 59) rfl ?_
    refine wpList_buildE rfl (.tmp 58) rfl eB rfl ?_
    have b14 := (Below.refl w13.heap.size w13).alloc (Nat.le_refl _) (.cells (ecs eB).toArray 34)
    have R13 := Lib.hid (Rd.new w13 (ecs eB).toArray 34 7 1 rfl (by unfold maxLen; omega))
    have BN0 := BN.out.size
    have LG := Lib.hid (LG.out.past b14)
    have KE := Lib.hid (KE.out.past b14)
    have KF := Lib.hid (KF.out.past b14)
    have R14 := Lib.hid (R14.out.past b14)
    have BN := Lib.hid (BN.out.trans (b14.mono BN.out.size))
    refine Hb.next (b14.mono BN0) (Nat.le_refl _) ?_ (by simp only [Act.put, List.setIfInBounds_toArray, List.set_cons_succ, List.set_cons_zero]; rfl)
    clear BN0
    obtain ⟨nb14, eb14⟩ : ∃ x, w13.heap.size = x := ⟨_, rfl⟩
    rw [eb14] at R13 ⊢
    generalize w13.alloc (.cells (ecs eB).toArray 34) = w14 at *
    clear eb14
    refine Hb.call (f := 21) (args := #[.slice (some ⟨nb14, 0, none⟩) 1 1, .slice A14 2 c14]) 34 62 rfl ?_ (run_callf Try.func21 (by kernel_rfl) (by kernel_rfl) (by simp only [List.map_toArray, List.map_cons, List.map_nil]; rfl))
    refine (Front_c w14 _ _ (some ⟨nb14, 0, none⟩) A14 1 1 c14 2 [eB] [eB, fB] R13.out R14.out).mono ?_
    rw [bg_front]
    rintro x w15 ⟨rfl, b15⟩
    have BN0 := BN.out.size
    have LG := Lib.hid (LG.out.past b15)
    have KE := Lib.hid (KE.out.past b15)
    have KF := Lib.hid (KF.out.past b15)
    have BN := Lib.hid (BN.out.trans (b15.mono BN.out.size))
    refine Hb.back (b15.mono BN0) (Nat.le_refl _) ?_
    clear BN0
    refine Hb.take (v := .bool true) 35 63 rfl ?_ (fun _ _ => rfl)
    refine Hb.take (v := .bool true) 36 64 rfl ?_ (fun _ _ => rfl)
    refine Hb.take (v := .pointer (some ⟨g, 0, none⟩)) 37 65 rfl ?_ (fun _ _ => rfl)
    refine Hb.take (v := ev eB) 39 67 rfl ?_ (fun w' hw' => by exact run_loadE ((KE.out.below hw' LE8.out).range) rfl)
    refine Hb.two 38 40 ?_ ?_
    · refine Hb.pickCall (f := 25) (args := #[.pointer (some ⟨g, 0, none⟩), .int .i64 0]) 38 66 rfl ?_ (run_callf Try.func25 (by kernel_rfl) (by kernel_rfl) (by simp only [List.map_toArray, List.map_cons, List.map_nil]; rfl))
      refine (From_0 w15 g F7 [eB, fB] LG.out).mono ?_
      rintro x w16 ⟨A16, c16, rfl, ob16, b16⟩
      have R16 := Lib.hid (Rd.of_own ob16)
      have BN0 := BN.out.size
      have LG := Lib.hid (LG.out.past b16)
      have KE := Lib.hid (KE.out.past b16)
      have KF := Lib.hid (KF.out.past b16)
      have BN := Lib.hid (BN.out.trans (b16.mono BN.out.size))
      refine Hb.back (b16.mono BN0) (Nat.le_refl _) ?_
      clear BN0 ob16
      refine Hb.only 40 (some 68) rfl ?_
      refine wpList_buildE rfl (.tmp 67) rfl eB rfl ?_
      have b17 := (Below.refl w16.heap.size w16).alloc (Nat.le_refl _) (.cells (ecs eB).toArray 34)
      have R17 := Lib.hid (Rd.new w16 (ecs eB).toArray 34 7 1 rfl (by unfold maxLen; omega))
      have BN0 := BN.out.size
      have LG := Lib.hid (LG.out.past b17)
      have KE := Lib.hid (KE.out.past b17)
      have KF := Lib.hid (KF.out.past b17)
      have R16 := Lib.hid (R16.out.past b17)
      have BN := Lib.hid (BN.out.trans (b17.mono BN.out.size))
      refine Hb.next (b17.mono BN0) (Nat.le_refl _) ?_ (by simp only [Act.put, List.setIfInBounds_toArray, List.set_cons_succ, List.set_cons_zero]; rfl)
      clear BN0
      obtain ⟨nb17, eb17⟩ : ∃ x, w16.heap.size = x := ⟨_, rfl⟩
      rw [eb17] at R17 ⊢
      generalize w16.alloc (.cells (ecs eB).toArray 34) = w17 at *
      clear eb17
      refine Hb.call (f := 21) (args := #[.slice A16 2 c16, .slice (some ⟨nb17, 0, none⟩) 1 1]) 41 69 rfl ?_ (run_callf Try.func21 (by kernel_rfl) (by kernel_rfl) (by simp only [List.map_toArray, List.map_cons, List.map_nil]; rfl))
      refine (Front_c w17 _ _ A16 (some ⟨nb17, 0, none⟩) c16 2 1 1 [eB, fB] [eB] R16.out R17.out).mono ?_
      rw [bg_back]
      rintro x w18 ⟨rfl, b18⟩
      have BN0 := BN.out.size
      have LG := Lib.hid (LG.out.past b18)
      have KE := Lib.hid (KE.out.past b18)
      have KF := Lib.hid (KF.out.past b18)
      have BN := Lib.hid (BN.out.trans (b18.mono BN.out.size))
      refine Hb.back (b18.mono BN0) (Nat.le_refl _) ?_
      clear BN0
      refine Hb.take (v := .bool true) 42 70 rfl ?_ (fun w' hw' => by go_simp; first | done | rfl | omega | (simp; omega))
      refine Hb.take (v := .bool true) 43 71 rfl ?_ (fun _ _ => rfl)
      refine Hb.take (v := .bool true) 44 0 rfl ?_ (fun _ _ => rfl)
      refine Hb.done ?_
      go_wp2_with fail
      go_ret
      exact ⟨rfl, B8.out.drew.trans (BN.out.mono B8.out.size)⟩
    · refine Hb.pick 40 (some 68) rfl ?_
      refine wpList_buildE rfl (.tmp 67) rfl eB rfl ?_
      have b16 := (Below.refl w15.heap.size w15).alloc (Nat.le_refl _) (.cells (ecs eB).toArray 34)
      have R17 := Lib.hid (Rd.new w15 (ecs eB).toArray 34 7 1 rfl (by unfold maxLen; omega))
      have BN0 := BN.out.size
      have LG := Lib.hid (LG.out.past b16)
      have KE := Lib.hid (KE.out.past b16)
      have KF := Lib.hid (KF.out.past b16)
      have BN := Lib.hid (BN.out.trans (b16.mono BN.out.size))
      refine Hb.next (b16.mono BN0) (Nat.le_refl _) ?_ (by simp only [Act.put, List.setIfInBounds_toArray, List.set_cons_succ, List.set_cons_zero]; rfl)
      clear BN0
      obtain ⟨nb16, eb16⟩ : ∃ x, w15.heap.size = x := ⟨_, rfl⟩
      rw [eb16] at R17 ⊢
      generalize w15.alloc (.cells (ecs eB).toArray 34) = w16 at *
      clear eb16
      refine Hb.call (f := 25) (args := #[.pointer (some ⟨g, 0, none⟩), .int .i64 0]) 38 66 rfl ?_ (run_callf Try.func25 (by kernel_rfl) (by kernel_rfl) (by simp only [List.map_toArray, List.map_cons, List.map_nil]; rfl))
      refine (From_0 w16 g F7 [eB, fB] LG.out).mono ?_
      rintro x w17 ⟨A16, c16, rfl, ob17, b17⟩
      have R16 := Lib.hid (Rd.of_own ob17)
      have BN0 := BN.out.size
      have LG := Lib.hid (LG.out.past b17)
      have KE := Lib.hid (KE.out.past b17)
      have KF := Lib.hid (KF.out.past b17)
      have R17 := Lib.hid (R17.out.past b17)
      have BN := Lib.hid (BN.out.trans (b17.mono BN.out.size))
      refine Hb.back (b17.mono BN0) (Nat.le_refl _) ?_
      clear BN0 ob17
      refine Hb.call (f := 21) (args := #[.slice A16 2 c16, .slice (some ⟨nb16, 0, none⟩) 1 1]) 41 69 rfl ?_ (run_callf Try.func21 (by kernel_rfl) (by kernel_rfl) (by simp only [List.map_toArray, List.map_cons, List.map_nil]; rfl))
      refine (Front_c w17 _ _ A16 (some ⟨nb16, 0, none⟩) c16 2 1 1 [eB, fB] [eB] R16.out R17.out).mono ?_
      rw [bg_back]
      rintro x w18 ⟨rfl, b18⟩
      have BN0 := BN.out.size
      have LG := Lib.hid (LG.out.past b18)
      have KE := Lib.hid (KE.out.past b18)
      have KF := Lib.hid (KF.out.past b18)
      have BN := Lib.hid (BN.out.trans (b18.mono BN.out.size))
      refine Hb.back (b18.mono BN0) (Nat.le_refl _) ?_
      clear BN0
      refine Hb.take (v := .bool true) 42 70 rfl ?_ (fun w' hw' => by go_simp; first | done | rfl | omega | (simp; omega))
      refine Hb.take (v := .bool true) 43 71 rfl ?_ (fun _ _ => rfl)
      refine Hb.take (v := .bool true) 44 0 rfl ?_ (fun _ _ => rfl)
      refine Hb.done ?_
      go_wp2_with fail
      go_ret
      exact ⟨rfl, B8.out.drew.trans (BN.out.mono B8.out.size)⟩
end Go.Proofs.Ytnhdehbpcgeceaa
