/- Contracts of the statements' logOf, cut (layer 20). -/
import Derived.Test.YtheeigbljjcbpaaVote
import Derived.Test.YtheeigbljjcbpaaEntL
import Derived.Test.YtheeigbljjcbpaaHeldT
import Derived.Great.BuildSlice
import Derived.Deep.CutRange
namespace Go.Proofs.Ytheeigbljjcbpaa
open Go.RowKit PVote

def lgE (i : Nat) : Ent := ⟨1, 1, (i : Int) + 1, 0, 0, 0, ⟨#[]⟩⟩
def lgL (n : Nat) : List Ent := (List.range n).map lgE
theorem lgL_len (n : Nat) : (lgL n).length = n := by simp [lgL]
theorem lgL_succ (n : Nat) : lgL (n + 1) = lgL n ++ [lgE n] := by unfold lgL; rw [List.range_succ, List.map_append]; rfl
theorem lgL_log {n : Nat} (h : n ≤ 20) : isLog (lgL n) = true := by
  have := List.all_eq_true.1 (show (List.range 21).all (fun n => isLog (lgL n)) = true by decide +kernel) n (List.mem_range.2 (by omega))
  exact this
theorem lgL_twice : isLog [lgE 0, lgE 0] = false := by decide +kernel

set_option maxHeartbeats 4000000 in
set_option maxRecDepth 100000 in
theorem logOf_c (w : World) (k : Nat) (hk : k ≤ 20) :
    Calls Try.prog 24 #[.int .i64 k] w fun e w' => ∃ A c, e = .returned (.slice A k c) ∧ Ow w' w.heap.size 52 7 A k c (els (lgL k)) ∧ Below w.heap.size w w' := by
  go_enter Try.func24, Try.ntmps24
  go_wp2_with fail
  go_loopw [3, 4] (fun s3 s4 wr => ∃ (i : Nat) (A : Option Addr) (c : Nat), s4 = .int .i64 i ∧ s3 = .slice A i c ∧ i ≤ k ∧ Hid (Ow wr w.heap.size 52 7 A i c (els (lgL i))) ∧ Hid (Below w.heap.size w wr)) (fun _ s4 _ => k - (intOf s4).toNat)
  case atStart => exact ⟨0, none, 0, rfl, rfl, by omega, Lib.hid (Ow.nil _ _ _ _), Lib.hid (Below.refl _ _)⟩
  case round =>
    obtain ⟨i, A, c, rfl, rfl, hi, HO, HB⟩ := hrel
    by_cases hin : i < k
    · have jn : (i : Int) < (k : Int) := by omega
      have i20 : i < 20 := by omega
      have BN := Lib.hid (show Below w.heap.size wr (wr.alloc (.cells (ecs (lgE i)).toArray 52)) from ((Below.refl _ _).alloc HB.out.size _))
      have BP := Lib.hid (show Below wr.heap.size wr (wr.alloc (.cells (ecs (lgE i)).toArray 52)) from ((Below.refl _ _).alloc (Nat.le_refl _) _))
      have O2 := Lib.hid (HO.out.past BP.out)
      have RN := Lib.hid (Rd.new wr (ecs (lgE i)).toArray 52 7 1 rfl (by unfold maxLen; omega))
      have LS := Lib.hid (lgL_succ i)
      have SZ := Lib.hid BN.out.size
      go_wp2_with (first | ((with_reducible show wpList _ _ _ ((⟨some 14, Op.buildSlice _ _ _, _, _, _, _⟩ : Oper) :: _) _ _); go_must (refine wpList_buildE rfl (.tmp 13) rfl (lgE i) rfl ?_)) | ((with_reducible show wpList _ _ _ ((⟨some 15, Op.call _, _, _, _, _⟩ : Oper) :: _) _ _); go_must (refine wpList_app2 rfl (.tmp 10) (.tmp 14) 30 rfl w.heap.size 52 _ 7 64 Try.underlying30 ent_info rfl (by omega) A i c (els (lgL i)) rfl O2.out _ _ 1 1 (ecs (lgE i)) rfl RN.out (ecs_one _) (by unfold maxLen; omega) (by omega) (Nat.le_trans HB.out.size BP.out.size) ?_)))
      intro A2 c2 w5 O5 g5 h5
      have B5 := Lib.hid ((HB.out.trans BN.out).grown g5 (Nat.le_trans HB.out.size BP.out.size) (fun q hq => O2.out.low q hq))
      have O6 := Lib.hid (show Ow w5 w.heap.size 52 7 A2 (i + 1) c2 (els (lgL (i + 1))) by rw [LS.out, els_append]; simpa [els] using O5)
      clear O5 h5 g5
      go_wp2_with fail
      go_roundw
      case rel => exact ⟨i + 1, A2, c2, by go_num, rfl, by omega, O6, B5⟩
      case measure => simp [intOf]; omega
    · obtain rfl : i = k := by omega
      go_wp2_with fail
      go_ret
      exact ⟨A, c, rfl, HO.out, HB.out⟩

set_option maxHeartbeats 4000000 in
set_option maxRecDepth 100000 in
theorem cutV_c (w : World) (v : Vt) (A : Option Addr) (c : Nat) (R : Rd w w.heap.size A c 7 v.es.length (els v.es)) (hok : ∀ e ∈ v.es, EntOk e) :
    Calls Try.prog 11 #[vv v A c] w fun e w' => ∃ (A' : Option Addr) (c' : Nat) (es : List Ent), e = .returned (vv ⟨v.fr, v.last, es, v.com⟩ A' c') ∧ Ow w' w.heap.size 52 7 A' es.length c' (els es) ∧ es.length ≤ 12 ∧ Below w.heap.size w w' := by
  obtain ⟨fr, last, es, com⟩ := v
  have K1 := Lib.hid (Blk.new w #[.int .i64 fr, .int .i64 last, .slice A es.length c, .int .i64 com] 32)
  have K2 := Lib.hid (Blk.new (w.alloc (.cells #[.int .i64 fr, .int .i64 last, .slice A es.length c, .int .i64 com] 32)) #[.int .i64 0, .int .i64 0, .slice none 0 0, .int .i64 0] 32)
  have sz : ∀ o, (w.alloc o).heap.size = w.heap.size + 1 := fun o => by simp
  rw [sz] at K2
  have B2 := Lib.hid (((Below.refl w.heap.size w).alloc (Nat.le_refl _) (.cells #[.int .i64 fr, .int .i64 last, .slice A es.length c, .int .i64 com] 32)).alloc (by simp) (.cells #[.int .i64 0, .int .i64 0, .slice none 0 0, .int .i64 0] 32))
  have K1 := Lib.hid (K1.out.alloc (.cells #[.int .i64 0, .int .i64 0, .slice none 0 0, .int .i64 0] 32))
  have R2 := Lib.hid (show Rd _ _ A c 7 es.length (els es) from ((R.alloc (.cells #[.int .i64 fr, .int .i64 last, .slice A es.length c, .int .i64 com] 32)).alloc (.cells #[.int .i64 0, .int .i64 0, .slice none 0 0, .int .i64 0] 32)).tight)
  have HOK := Lib.hid hok
  clear R hok sz
  show Calls _ _ #[.agg #[.int .i64 fr, .int .i64 last, .slice A es.length c, .int .i64 com]] _ _
  go_enter Try.func11, Try.ntmps11
  go_upto_region 1 with fail
  generalize (w.alloc (.cells #[.int .i64 fr, .int .i64 last, .slice A es.length c, .int .i64 com] 32)).alloc (.cells #[.int .i64 0, .int .i64 0, .slice none 0 0, .int .i64 0] 32) = w2 at *
  have p2 := K1.out.cell (i := 2) rfl
  go_wp2_with fail
  refine (lEntries_c w2 A c es.length es 12 R2.out HOK.out (by omega) (by omega)).mono ?_
  rintro e w3 ⟨A3, c3, es3, rfl, hl3, o3, -, b3⟩
  have B3 := Lib.hid (B2.out.trans (b3.mono B2.out.size))
  have K1 := Lib.hid (K1.out.past b3)
  have K2 := Lib.hid (K2.out.past b3)
  have O3 := Lib.hid (Ow.down (Ow.of_own o3) B2.out.size)
  have HL := Lib.hid (show es3.length ≤ 12 by rw [hl3]; have : (12 : Int).toNat = 12 := rfl; omega)
  clear b3 o3 hl3 p2 R2 B2
  have c2 := K1.out.cell (i := 2) rfl
  have f2 := K1.out.free 2
  have GE := grown_set w3 w.heap.size 2 (.slice A3 es3.length c3)
  have KE := Lib.hid (show Blk _ _ _ [.int .i64 fr, .int .i64 last, .slice A3 es3.length c3, .int .i64 com] from K1.out.set 2 (.slice A3 es3.length c3))
  have KF := Lib.hid (K2.out.far GE (by omega))
  have BE := Lib.hid (B3.out.trans (grown_below GE (Nat.le_refl _) B3.out.size))
  have OE := Lib.hid (O3.out.touch (Touch.of_grown GE) (fun s hs => by rw [List.mem_singleton.1 hs]; exact O3.out.ne K1.out (by decide)))
  clear GE
  go_wp2_with (first | ((with_reducible show wpList _ _ _ ((⟨some 7, Op.load _ _, _, _, _, _⟩ : Oper) :: _) _ _); go_must (refine wpList_load_row rfl 32 (.tmp 1) rfl w.heap.size rfl 32 #[.int .i64 fr, .int .i64 last, .slice A3 es3.length c3, .int .i64 com] (0, 0) _ KE.out Try.underlying32 rfl (by kernel_rfl) ?_)) | ((with_reducible show wpList _ _ _ ((⟨none, Op.store 32 (.tmp 2) _, _, _, _, _⟩ : Oper) :: _) _ _); go_must (refine wpList_store_row rfl 32 (.tmp 2) (.tmp 7) rfl (w.heap.size + 1) _ rfl rfl _ _ KF.out (by kernel_rfl) (by rfl) (by kernel_rfl) ?_)))
  have KZ := KF.out.row #[.int .i64 fr, .int .i64 last, .slice A3 es3.length c3, .int .i64 com]
  have GZ := grown_row (w3.setCell ⟨w.heap.size, 2, none⟩ (.slice A3 es3.length c3)) (w.heap.size + 1) #[.int .i64 fr, .int .i64 last, .slice A3 es3.length c3, .int .i64 com]
  have BZ := BE.out.trans (grown_below GZ (by omega) BE.out.size)
  have OZ := OE.out.touch (Touch.of_grown GZ) (fun s hs => by rw [List.mem_singleton.1 hs]; exact OE.out.ne KF.out (by decide))
  exact bodyPost_ret (v := .agg #[.int .i64 fr, .int .i64 last, .slice A3 es3.length c3, .int .i64 com]) (results_cell_row rfl _ _ (w.heap.size + 1) _ _ _ _ rfl KZ Try.underlying32 rfl (by kernel_rfl)) rfl ⟨A3, c3, es3, rfl, OZ, HL.out, BZ⟩
end Go.Proofs.Ytheeigbljjcbpaa
