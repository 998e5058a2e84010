/- Contracts of encode, Sum. -/
import Derived.Test.YtapleleaogjcjaaDoorTabN
import Derived.Test.YtapleleaogjcjaaDoorNumT
import Derived.Test.YtapleleaogjcjaaDoorCrcA
import Derived.Test.YtapleleaogjcjaaDoorHeld
namespace Go.Proofs.YtapleleaogjcjaaDoor
open Go.RowKit PTab

theorem encW_length (s : ByteArray) : (encW s).length = (PNum.sev (PNum.zig s.size)).length + s.size := by simp [encW, sb_length]
theorem put0_c (w : World) (a : ByteArray) (h : a.size ≤ 1000000) :
    Calls Tryd.prog 31 #[.slice none 0 0, .string a] w fun e w' => ∃ A' c', e = .returned (.slice A' (encW a).length c') ∧ w'.ownsRow w.heap.size 5 1 (.slice A' (encW a).length c') (encW a).length (bs (encW a)) ∧ Below w.heap.size w w' := by
  refine (PutText_c w 0 none 0 0 [] a (Rd.nil _ _ _) (by omega) (by omega)).mono ?_
  rintro e w' ⟨A', c', rfl, ho, hb⟩
  rw [Nat.zero_add, List.nil_append, ← encW_length] at ho
  exact ⟨A', c', by rw [Nat.zero_add, ← encW_length], ho, hb⟩
theorem putN_c (w : World) (B : Nat) (A : Option Addr) (c : Nat) (l : List Int) (b : ByteArray) (hr : Rd w B A c 1 l.length (bs l)) (hl : l.length ≤ 500000000000) (h : b.size ≤ 1000000) :
    Calls Tryd.prog 31 #[.slice A l.length c, .string b] w fun e w' => ∃ A' c', e = .returned (.slice A' (l ++ encW b).length c') ∧ w'.ownsRow w.heap.size 5 1 (.slice A' (l ++ encW b).length c') (l ++ encW b).length (bs (l ++ encW b)) ∧ Below w.heap.size w w' := by
  refine (PutText_c w B A c l.length l b hr hl (by omega)).mono ?_
  rintro e w' ⟨A', c', rfl, ho, hb⟩
  rw [Nat.add_assoc, ← encW_length, ← List.length_append, List.append_assoc] at ho
  exact ⟨A', c', by rw [Nat.add_assoc, ← encW_length, ← List.length_append], ho, hb⟩

set_option maxHeartbeats 1000000 in
set_option maxRecDepth 100000 in
theorem encode_c (w : World) (a b : ByteArray) (ha : a.size ≤ 1000000) (hb : b.size ≤ 1000000) :
    Calls Tryd.prog 23 #[.string a, .agg #[.string b]] w fun e w' => ∃ A' c', e = .returned (.slice A' (encP (a, b)).length c') ∧ w'.ownsRow w.heap.size 5 1 (.slice A' (encP (a, b)).length c') (encP (a, b)).length (bs (encP (a, b))) ∧ Below w.heap.size w w' := by
  have B0 := Lib.hid ((Below.refl w.heap.size w).alloc (Nat.le_refl _) (.cells #[.string b] 54))
  have k0 := Blk.new w #[.string b] 54
  have SA := Lib.hid ha
  have SB := Lib.hid hb
  clear ha hb
  go_enter Tryd.func23, Tryd.ntmps23
  go_wp2_with fail
  generalize (w.alloc (.cells #[.string b] 54)) = w1 at *
  have K1 := Lib.hid (show Blk w1.drew w.heap.size 54 [.string b] from k0.drew)
  have LT := Lib.hid K1.out.lt
  clear k0
-- REGION curfew/table.encode 1 tencode 2
  refine Hb.begin ?_
  refine Hb.take (v := .string a) 0 5 rfl ?_ (fun _ _ => rfl)
  refine Hb.take (v := .pointer (some ⟨w.heap.size, 0, none⟩)) 2 7 rfl ?_ (fun w' hw' => by go_simp; first | done | rfl | omega | exact wrap_in (by omega) (by omega) | exact Int.tmod_eq_emod_of_nonneg (by omega) | exact Int.tdiv_eq_ediv_of_nonneg (by omega) | (simp; omega))
  refine Hb.take (v := .string b) 3 8 rfl ?_ (fun w' hw' => by have c := (hw'.cell (p := ⟨w.heap.size, 0, none⟩) LT.out).trans (K1.out.cell (i := 0) rfl); go_simp)
  refine Hb.call (f := 31) (args := #[.slice none 0 0, .string a]) 1 6 rfl ?_ (run_callf Tryd.func31 (by kernel_rfl) (by kernel_rfl) (by simp only [List.map_toArray, List.map_cons, List.map_nil]; rfl))
  refine (put0_c _ a SA.out).mono ?_
  rintro x w2 ⟨A2, c2, rfl, ho2, b2⟩
  have R2 := Lib.hid (Rd.of_own ho2)
  have B2 := Lib.hid b2
  clear ho2
  refine Hb.back b2 (Nat.le_refl _) ?_
  refine Hb.call (f := 31) (args := #[.slice A2 (encW a).length c2, .string b]) 4 9 rfl ?_ (run_callf Tryd.func31 (by kernel_rfl) (by kernel_rfl) (by simp only [List.map_toArray, List.map_cons, List.map_nil]; rfl))
  refine (putN_c w2 _ A2 c2 (encW a) b R2.out (by have := encW_len a SA.out; have := SA.out; omega) SB.out).mono ?_
  rintro x w3 ⟨A3, c3, rfl, ho3, b3⟩
  have O3 := Lib.hid ho3
  have B3 := Lib.hid (B2.out.trans (b3.mono B2.out.size))
  clear ho3
  refine Hb.back (b3.mono B2.out.size) (Nat.le_refl _) ?_
  refine Hb.take (v := .slice A3 (encP (a, b)).length c3) 5 4 rfl ?_ (fun _ _ => rfl)
  refine Hb.done ?_
-- END
  go_wp2_with fail
  go_ret
  exact ⟨A3, c3, rfl, own_base O3.out (Nat.le_trans B0.out.size B2.out.size), B0.out.trans (((Below.refl w1.heap.size w1).drew.trans B3.out).mono B0.out.size)⟩
end Go.Proofs.YtapleleaogjcjaaDoor
