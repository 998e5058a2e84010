/- Contracts of the log's New, addAll, Put, From; of all methods at no log. -/
import Derived.Test.YtheeigbljjcbpaaLogB
namespace Go.Proofs.Ytheeigbljjcbpaa
open Go.RowKit

/-- A log that was just made. -/
theorem Lg.new (w : World) : Lg (w.alloc (.cells #[.slice none 0 0] 76)) w.heap.size [w.heap.size] [] :=
  ⟨⟨none, 0, Blk.new w #[.slice none 0 0] 76, ⟨rfl, .inl ⟨rfl, rfl, rfl⟩⟩, rfl⟩, by simp⟩

set_option maxHeartbeats 4000000 in
set_option maxRecDepth 100000 in
theorem New_c (w : World) (B : Nat) (A : Option Addr) (c n : Nat) (es : List Ent) (R : Rd w B A c 7 n (els es)) :
    Calls Try.prog 28 #[.slice A n c] w fun x w' => ∃ (g : Nat) (F : List Nat), x = .returned (.pointer (some ⟨g, 0, none⟩)) ∧ Lg w' g F (PLog.log es) ∧ (∀ k ∈ F, w.heap.size ≤ k) ∧ Below w.heap.size w w' := by
  have hcap := R.cap
  have hle := R.le
  have hn : n ≤ 9223372036854775807 := by unfold maxLen at hcap; omega
  have HL := Lib.hid R.elen
  have R0 := Lib.hid R.tight
  have H1 := Lib.hid (Lg.new w)
  have b1 := Lib.hid ((Below.refl w.heap.size w).alloc (Nat.le_refl _) (.cells #[.slice none 0 0] 76))
  clear R hcap hle
  go_enter Try.func28, Try.ntmps28
  go_wp2_with fail
  generalize w.alloc (.cells #[.slice none 0 0] 76) = w1 at *
  go_loopw [9] (fun s9 wr => ∃ (i : Nat) (F : List Nat), s9 = .int .i64 i ∧ i ≤ n ∧ Hid (Lg wr w.heap.size F (PLog.log (es.take i))) ∧ Hid (∀ k ∈ F, w.heap.size ≤ k) ∧ Hid (Below w.heap.size w wr)) (fun s9 _ => n - (intOf s9).toNat)
  case atStart => exact ⟨0, [w.heap.size], rfl, by omega, H1, Lib.hid (by simp), b1⟩
  case round =>
    clear H1 b1
    obtain ⟨i, F, rfl, hi, HG, HF, BT⟩ := hrel
    by_cases hin : i < n
    · obtain ⟨b, o, e, rfl, -, he, -, d0, d1, d2, d3, d4, d5, d6⟩ := (R0.out.below BT.out).ent hin
      have HE := Lib.hid he
      have L1 := Lib.hid (HG.out.alloc (.cells #[.int .i64 e.fr, .int .i64 e.boot, .int .i64 e.seq, .int .i64 e.ord, .int .i64 e.lev, .int .i64 e.stamp, .string e.data] 52))
      have b2 := (Below.refl wr.heap.size wr).alloc (Nat.le_refl _) (.cells #[.int .i64 e.fr, .int .i64 e.boot, .int .i64 e.seq, .int .i64 e.ord, .int .i64 e.lev, .int .i64 e.stamp, .string e.data] 52)
      have B2 := Lib.hid (BT.out.trans (b2.mono BT.out.size))
      clear he b2
      go_wp2_with fail
      clear d0 d1 d2 d3 d4 d5 d6
      generalize (wr.alloc (.cells #[.int .i64 e.fr, .int .i64 e.boot, .int .i64 e.seq, .int .i64 e.ord, .int .i64 e.lev, .int .i64 e.stamp, .string e.data] 52)) = w2 at *
      refine (Add_c w2 w.heap.size F _ L1.out e).mono ?_
      rintro x w3 ⟨rfl, ⟨⟨F3, l3, f3⟩, t3⟩⟩
      have L3 := Lib.hid (show Lg w3 w.heap.size F3 (PLog.log (es.take (i + 1))) by rw [take_step HE.out, PLog.log_append]; exact l3)
      have HF3 := Lib.hid (show ∀ k ∈ F3, w.heap.size ≤ k from fun k hk => (f3 k hk).elim (HF.out k) (fun h => Nat.le_trans B2.out.size h))
      have B3 := Lib.hid (B2.out.trans (t3.below HF.out B2.out.size))
      clear l3 f3 t3
      go_wp2_with fail
      go_roundw
      case rel => exact ⟨i + 1, F3, by go_num, by omega, L3, HF3, B3⟩
      case measure => simp [intOf]; omega
    · obtain rfl : i = n := by omega
      have e1 : es.take i = es := List.take_of_length_le (by rw [HL.out]; omega)
      rw [e1] at HG
      go_wp2_with fail
      go_ret
      exact ⟨w.heap.size, F, rfl, HG.out, HF.out, BT.out⟩

set_option maxHeartbeats 4000000 in
set_option maxRecDepth 100000 in
theorem From_in (w : World) (g : Nat) (F : List Nat) (L : List Ent) (h : Lg w g F L) (k : Nat) (hk : k ≤ L.length) :
    Calls Try.prog 30 #[.pointer (some ⟨g, 0, none⟩), .int .i64 k] w fun x w' => ∃ A' c', x = .returned (.slice A' (L.length - k) c') ∧ w'.ownsRow w.heap.size 52 7 (.slice A' (L.length - k) c') (L.length - k) (els (L.drop k)) ∧ Below w.heap.size w w' := by
  have h60 := h.le
  obtain ⟨A0, c0, d, RL, -⟩ := h.open
  obtain ⟨A1, c1, hrun1, R1⟩ := cut_any (P := Try.prog) (w := w) 30 52 Try.underlying30 ent_info RL (some (.int .i64 k)) none k L.length k 0 (Or.inr ⟨rfl, rfl⟩) (Or.inl ⟨rfl, rfl⟩) hk (Nat.le_refl _)
  have e1 : ((els L).drop (k * 7)).take ((L.length - k) * 7) = els (L.drop k) := by
    rw [els_drop, els_take]; congr 1; exact List.take_of_length_le (by simp)
  rw [e1] at R1
  have R1' := Lib.hid R1
  have j1 : ¬ ((k : Int) < 0) := by omega
  have j2 : ¬ ((L.length : Int) < (k : Int)) := by omega
  clear h RL R1 e1
  go_enter Try.func30, Try.ntmps30
  go_wp2_with ((with_reducible show wpList _ _ _ ((⟨some 25, Op.slice _ _ _ _ _, _, _, _, _⟩ : Oper) :: _) _ _); (refine wpList_plain rfl fun K hK => ?_; unfold Oper.wp; rw [run_sliceOp (hrun1 _), Oper.upon_value]; refine hK _ _ ?_))
  refine (cloneE_c w _ A1 c1 (L.length - k) (L.drop k) R1'.out (by omega)).mono ?_
  rintro x w1 ⟨A', c', rfl, hown, b1⟩
  go_wp2_with fail
  go_ret
  exact ⟨A', c', rfl, hown, b1⟩

set_option maxRecDepth 100000 in
theorem From_out (w : World) (g : Nat) (F : List Nat) (L : List Ent) (h : Lg w g F L) (k : Int) (hk : k < 0 ∨ (L.length : Int) < k) :
    Calls Try.prog 30 #[.pointer (some ⟨g, 0, none⟩), .int .i64 k] w fun x w' => x = .returned (.slice none 0 0) ∧ w = w' := by
  obtain ⟨A0, c0, d, -, -⟩ := h.open
  clear h
  by_cases h1 : k < 0
  · clear hk
    go_enter Try.func30, Try.ntmps30
    go_wp2_with fail
    go_ret
    exact ⟨rfl, rfl⟩
  · have h2 : (L.length : Int) < k := by omega
    clear hk
    go_enter Try.func30, Try.ntmps30
    go_wp2_with fail
    go_ret
    exact ⟨rfl, rfl⟩
end Go.Proofs.Ytheeigbljjcbpaa
