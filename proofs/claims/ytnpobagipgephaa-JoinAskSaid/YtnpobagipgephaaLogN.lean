/- Contract of New. -/
import Derived.Test.YtnpobagipgephaaLogB
namespace Go.Proofs.Ytnpobagipgephaa
open Go.RowKit

/-- A log that was just made. -/
theorem Lg.new (w : World) : Lg (w.alloc (.cells #[.slice none 0 0] 56)) w.heap.size [w.heap.size] [] :=
  ⟨⟨none, 0, Blk.new w #[.slice none 0 0] 56, ⟨rfl, .inl ⟨rfl, rfl, rfl⟩⟩, rfl⟩, by simp⟩

set_option maxHeartbeats 4000000 in
set_option maxRecDepth 100000 in
theorem New_c (w : World) (B : Nat) (A : Option Addr) (c n : Nat) (es : List Ent) (R : Rd w B A c 7 n (els es)) :
    Calls Try.prog 27 #[.slice A n c] w fun x w' => ∃ (g : Nat) (F : List Nat), x = .returned (.pointer (some ⟨g, 0, none⟩)) ∧ Lg w' g F (PLog.log es) ∧ (∀ k ∈ F, w.heap.size ≤ k) ∧ Below w.heap.size w w' := by
  have hcap := R.cap
  have hle := R.le
  have hn : n ≤ 9223372036854775807 := by unfold maxLen at hcap; omega
  have HL := Lib.hid R.elen
  have R0 := Lib.hid R.tight
  have H1 := Lib.hid (Lg.new w)
  have b1 := Lib.hid ((Below.refl w.heap.size w).alloc (Nat.le_refl _) (.cells #[.slice none 0 0] 56))
  clear R hcap hle
  go_enter Try.func27, Try.ntmps27
  go_wp2_with fail
  generalize w.alloc (.cells #[.slice none 0 0] 56) = w1 at *
  go_loopw [9] (fun s9 wr => ∃ (i : Nat) (F : List Nat), s9 = .int .i64 i ∧ i ≤ n ∧ Hid (Lg wr w.heap.size F (PLog.log (es.take i))) ∧ Hid (∀ k ∈ F, w.heap.size ≤ k) ∧ Hid (Below w.heap.size w wr)) (fun s9 _ => n - (intOf s9).toNat)
  case atStart => exact ⟨0, [w.heap.size], rfl, by omega, H1, Lib.hid (by simp), b1⟩
  case round =>
    clear H1 b1
    obtain ⟨i, F, rfl, hi, HG, HF, BT⟩ := hrel
    by_cases hin : i < n
    · obtain ⟨b, o, e, rfl, -, he, -, d0, d1, d2, d3, d4, d5, d6⟩ := (R0.out.below BT.out).ent hin
      have HE := Lib.hid he
      have L1 := Lib.hid (HG.out.alloc (.cells #[.int .i64 e.fr, .int .i64 e.boot, .int .i64 e.seq, .int .i64 e.ord, .int .i64 e.lev, .int .i64 e.stamp, .string e.data] 47))
      have b2 := (Below.refl wr.heap.size wr).alloc (Nat.le_refl _) (.cells #[.int .i64 e.fr, .int .i64 e.boot, .int .i64 e.seq, .int .i64 e.ord, .int .i64 e.lev, .int .i64 e.stamp, .string e.data] 47)
      have B2 := Lib.hid (BT.out.trans (b2.mono BT.out.size))
      clear he b2
      go_wp2_with fail
      clear d0 d1 d2 d3 d4 d5 d6
      generalize (wr.alloc (.cells #[.int .i64 e.fr, .int .i64 e.boot, .int .i64 e.seq, .int .i64 e.ord, .int .i64 e.lev, .int .i64 e.stamp, .string e.data] 47)) = w2 at *
      refine (Add_c w2 w.heap.size F _ L1.out e).mono ?_
      rintro x w3 ⟨rfl, ⟨⟨F3, l3, f3⟩, t3⟩⟩
      have L3 := Lib.hid (show Lg w3 w.heap.size F3 (PLog.log (es.take (i + 1))) by rw [take_step HE.out, PLog.log_append]; exact l3)
      have HF3 := Lib.hid (show ∀ k ∈ F3, w.heap.size ≤ k from fun k hk => (f3 k hk).elim (HF.out k) (fun h => Nat.le_trans B2.out.size h))
      have B3 := Lib.hid (B2.out.trans (t3.below HF.out B2.out.size))
      clear l3 f3 t3
      go_wp2_with fail
      go_roundw
      case rel => exact ⟨i + 1, F3, by go_num, by omega, L3, HF3, B3⟩
      case measure => simp [intOf]; omega
    · obtain rfl : i = n := by omega
      have e1 : es.take i = es := List.take_of_length_le (by rw [HL.out]; omega)
      rw [e1] at HG
      go_wp2_with fail
      go_ret
      exact ⟨w.heap.size, F, rfl, HG.out, HF.out, BT.out⟩

end Go.Proofs.Ytnpobagipgephaa
