/- Contract of crc.sumAt. -/
import Derived.Test.YtkdcafigcodbgaaDoorCrcA
import Derived.Test.YtkdcafigcodbgaaDoorHeld
namespace Go.Proofs.YtkdcafigcodbgaaDoor
open Go.RowKit

set_option maxRecDepth 100000 in
theorem sumAt_c (w : World) (b o c : Nat) (x0 x1 x2 x3 : Nat) (h0 : w.cell? ⟨b, o, none⟩ = some (.int .u8 x0)) (h1 : w.cell? ⟨b, o + 1, none⟩ = some (.int .u8 x1)) (h2 : w.cell? ⟨b, o + 2, none⟩ = some (.int .u8 x2)) (h3 : w.cell? ⟨b, o + 3, none⟩ = some (.int .u8 x3))
    (l0 : x0 < 256) (l1 : x1 < 256) (l2 : x2 < 256) (l3 : x3 < 256) :
    Calls Tryd.prog 30 #[.slice (some ⟨b, o, none⟩) 4 c] w fun e w' => e = .returned (.int .u32 (PCrc.told [x0, x1, x2, x3] : Nat)) ∧ Below w.heap.size w w' := by
  have fin : Ending.returned (.int .u32 (bits BinOp.or IntKind.u32 (bits BinOp.or IntKind.u32 (bits BinOp.or IntKind.u32 (IntKind.u32.wrap (IntKind.u32.wrap (x0 : Int) * 16777216)) (IntKind.u32.wrap (IntKind.u32.wrap (x1 : Int) * 65536))) (IntKind.u32.wrap (IntKind.u32.wrap (x2 : Int) * 256))) (IntKind.u32.wrap (x3 : Int)))) = Ending.returned (.int .u32 (PCrc.told [x0, x1, x2, x3] : Nat)) := by
    have e0 : IntKind.u32.wrap (IntKind.u32.wrap (x0 : Int) * 16777216) = ((2 ^ 24 * x0 : Nat) : Int) := by rw [IntKind.wrap_u32, IntKind.wrap_u32]; omega
    have e1 : IntKind.u32.wrap (IntKind.u32.wrap (x1 : Int) * 65536) = ((2 ^ 16 * x1 : Nat) : Int) := by rw [IntKind.wrap_u32, IntKind.wrap_u32]; omega
    have e2 : IntKind.u32.wrap (IntKind.u32.wrap (x2 : Int) * 256) = ((2 ^ 8 * x2 : Nat) : Int) := by rw [IntKind.wrap_u32, IntKind.wrap_u32]; omega
    have e3 : IntKind.u32.wrap (x3 : Int) = (x3 : Int) := by rw [IntKind.wrap_u32]; omega
    have o1 : 2 ^ 24 * x0 ||| 2 ^ 16 * x1 = 2 ^ 16 * (2 ^ 8 * x0 + x1) := by
      rw [← Nat.two_pow_add_eq_or_of_lt (by omega : 2 ^ 16 * x1 < 2 ^ 24)]; omega
    have o2 : 2 ^ 16 * (2 ^ 8 * x0 + x1) ||| 2 ^ 8 * x2 = 2 ^ 8 * (2 ^ 8 * (2 ^ 8 * x0 + x1) + x2) := by
      rw [← Nat.two_pow_add_eq_or_of_lt (by omega : 2 ^ 8 * x2 < 2 ^ 16)]; omega
    have o3 : 2 ^ 8 * (2 ^ 8 * (2 ^ 8 * x0 + x1) + x2) ||| x3 = 2 ^ 8 * (2 ^ 8 * (2 ^ 8 * x0 + x1) + x2) + x3 := by
      rw [← Nat.two_pow_add_eq_or_of_lt (by omega : x3 < 2 ^ 8)]
    rw [e0, e1, e2, e3, u32_or_nat _ _ (by omega) (by omega), o1, u32_or_nat _ _ (by omega) (by omega), o2, u32_or_nat _ _ (by omega) (by omega), o3]
    congr 3
    simp only [PCrc.told, Int.toNat_natCast]; omega
  have FIN := Lib.hid fin; clear fin
  have hb0 : b < w.heap.size := World.block_lt_of_cell? w _ h0
  go_enter Tryd.func30, Tryd.ntmps30
  go_wp2
-- REGION curfew/crc.sumAt 1 sumat 2
  refine Hb.begin ?_
  refine Hb.take (v := .slice (some ⟨b, o, none⟩) 4 c) 0 3 rfl ?_ (fun _ _ => rfl)
  refine Hb.take 1 4 rfl ?_ (fun w' hw' => by go_simp; first | done | rfl)
  refine Hb.take 2 5 rfl ?_ (fun w' hw' => by have hc := (hw'.cell (p := ⟨b, o, none⟩) hb0).trans h0; go_simp; rfl)
  refine Hb.take 3 6 rfl ?_ (fun w' hw' => by go_simp; first | done | rfl)
  refine Hb.take 4 7 rfl ?_ (fun w' hw' => by go_simp; first | done | rfl)
  refine Hb.take (v := .slice (some ⟨b, o, none⟩) 4 c) 5 8 rfl ?_ (fun _ _ => rfl)
  refine Hb.take 6 9 rfl ?_ (fun w' hw' => by go_simp; first | done | rfl)
  refine Hb.take 7 10 rfl ?_ (fun w' hw' => by have hc := (hw'.cell (p := ⟨b, o + 1, none⟩) hb0).trans h1; go_simp; rfl)
  refine Hb.take 8 11 rfl ?_ (fun w' hw' => by go_simp; first | done | rfl)
  refine Hb.take 9 12 rfl ?_ (fun w' hw' => by go_simp; first | done | rfl)
  refine Hb.take 10 13 rfl ?_ (fun w' hw' => by go_simp; first | done | rfl)
  refine Hb.take (v := .slice (some ⟨b, o, none⟩) 4 c) 11 14 rfl ?_ (fun _ _ => rfl)
  refine Hb.take 12 15 rfl ?_ (fun w' hw' => by go_simp; first | done | rfl)
  refine Hb.take 13 16 rfl ?_ (fun w' hw' => by have hc := (hw'.cell (p := ⟨b, o + 2, none⟩) hb0).trans h2; go_simp; rfl)
  refine Hb.take 14 17 rfl ?_ (fun w' hw' => by go_simp; first | done | rfl)
  refine Hb.take 15 18 rfl ?_ (fun w' hw' => by go_simp; first | done | rfl)
  refine Hb.take 16 19 rfl ?_ (fun w' hw' => by go_simp; first | done | rfl)
  refine Hb.take (v := .slice (some ⟨b, o, none⟩) 4 c) 17 20 rfl ?_ (fun _ _ => rfl)
  refine Hb.take 18 21 rfl ?_ (fun w' hw' => by go_simp; first | done | rfl)
  refine Hb.take 19 22 rfl ?_ (fun w' hw' => by have hc := (hw'.cell (p := ⟨b, o + 3, none⟩) hb0).trans h3; go_simp; rfl)
  refine Hb.take 20 23 rfl ?_ (fun w' hw' => by go_simp; first | done | rfl)
  refine Hb.take 21 24 rfl ?_ (fun w' hw' => by go_simp; first | done | rfl)
  refine Hb.take 22 2 rfl ?_ (fun w' hw' => by go_simp; first | done | rfl)
  refine Hb.done ?_
-- END
  go_wp2
  go_ret
  exact ⟨FIN.out, (Below.refl _ _).drew⟩

end Go.Proofs.YtkdcafigcodbgaaDoor
