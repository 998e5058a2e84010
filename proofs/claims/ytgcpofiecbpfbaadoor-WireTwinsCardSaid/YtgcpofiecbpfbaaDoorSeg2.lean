/- Contract of crc.sumAt. -/
import Derived.Test.YtgcpofiecbpfbaaDoorSeg1
import Derived.Test.YtgcpofiecbpfbaaDoorRows
import Derived.Lib.SlBytesConst
import Derived.Laws.StructEq
import Derived.Lib.Zigzag
import Derived.Deep.DeepMust
import Derived.Laws.BitsAllLaws
namespace Go.Proofs.YtgcpofiecbpfbaaDoor
open Go.RowKit

set_option maxRecDepth 100000 in
theorem sumAt_c (w : World) (b o c : Nat) (x0 x1 x2 x3 : Nat) (h0 : w.cell? ⟨b, o, none⟩ = some (.int .u8 x0)) (h1 : w.cell? ⟨b, o + 1, none⟩ = some (.int .u8 x1)) (h2 : w.cell? ⟨b, o + 2, none⟩ = some (.int .u8 x2)) (h3 : w.cell? ⟨b, o + 3, none⟩ = some (.int .u8 x3))
    (l0 : x0 < 256) (l1 : x1 < 256) (l2 : x2 < 256) (l3 : x3 < 256) :
    Calls Tryd.prog 53 #[.slice (some ⟨b, o, none⟩) 4 c] w fun e w' => e = .returned (.int .u32 (PCrc.told [x0, x1, x2, x3] : Nat)) ∧ Below w.heap.size w w' := by
  have fin : Ending.returned (.int .u32 (bits BinOp.or IntKind.u32 (bits BinOp.or IntKind.u32 (bits BinOp.or IntKind.u32 (IntKind.u32.wrap (IntKind.u32.wrap (x0 : Int) * 16777216)) (IntKind.u32.wrap (IntKind.u32.wrap (x1 : Int) * 65536))) (IntKind.u32.wrap (IntKind.u32.wrap (x2 : Int) * 256))) (IntKind.u32.wrap (x3 : Int)))) = Ending.returned (.int .u32 (PCrc.told [x0, x1, x2, x3] : Nat)) := by
    have e0 : IntKind.u32.wrap (IntKind.u32.wrap (x0 : Int) * 16777216) = ((2 ^ 24 * x0 : Nat) : Int) := by rw [IntKind.wrap_u32, IntKind.wrap_u32]; omega
    have e1 : IntKind.u32.wrap (IntKind.u32.wrap (x1 : Int) * 65536) = ((2 ^ 16 * x1 : Nat) : Int) := by rw [IntKind.wrap_u32, IntKind.wrap_u32]; omega
    have e2 : IntKind.u32.wrap (IntKind.u32.wrap (x2 : Int) * 256) = ((2 ^ 8 * x2 : Nat) : Int) := by rw [IntKind.wrap_u32, IntKind.wrap_u32]; omega
    have e3 : IntKind.u32.wrap (x3 : Int) = (x3 : Int) := by rw [IntKind.wrap_u32]; omega
    have o1 : 2 ^ 24 * x0 ||| 2 ^ 16 * x1 = 2 ^ 16 * (2 ^ 8 * x0 + x1) := by
      rw [← Nat.two_pow_add_eq_or_of_lt (by omega : 2 ^ 16 * x1 < 2 ^ 24)]; omega
    have o2 : 2 ^ 16 * (2 ^ 8 * x0 + x1) ||| 2 ^ 8 * x2 = 2 ^ 8 * (2 ^ 8 * (2 ^ 8 * x0 + x1) + x2) := by
      rw [← Nat.two_pow_add_eq_or_of_lt (by omega : 2 ^ 8 * x2 < 2 ^ 16)]; omega
    have o3 : 2 ^ 8 * (2 ^ 8 * (2 ^ 8 * x0 + x1) + x2) ||| x3 = 2 ^ 8 * (2 ^ 8 * (2 ^ 8 * x0 + x1) + x2) + x3 := by
      rw [← Nat.two_pow_add_eq_or_of_lt (by omega : x3 < 2 ^ 8)]
    rw [e0, e1, e2, e3, u32_or_nat _ _ (by omega) (by omega), o1, u32_or_nat _ _ (by omega) (by omega), o2, u32_or_nat _ _ (by omega) (by omega), o3]
    congr 3
    simp only [PCrc.told, Int.toNat_natCast]; omega
  have FIN := Lib.hid fin; clear fin
  have hb0 : b < w.heap.size := World.block_lt_of_cell? w _ h0
  go_enter Tryd.func53, Tryd.ntmps53
  go_wp2
-- REGION curfew/crc.sumAt 1 sumat 2
  refine Hb.begin ?_
  refine Hb.take (v := .slice (some ⟨b, o, none⟩) 4 c) 0 3 rfl ?_ (fun _ _ => rfl)
  refine Hb.take 1 4 rfl ?_ (fun w' hw' => by go_simp; first | done | rfl)
  refine Hb.take 2 5 rfl ?_ (fun w' hw' => by have hc := (hw'.cell (p := ⟨b, o, none⟩) hb0).trans h0; go_simp; rfl)
  refine Hb.take 3 6 rfl ?_ (fun w' hw' => by go_simp; first | done | rfl)
  refine Hb.take 4 7 rfl ?_ (fun w' hw' => by go_simp; first | done | rfl)
  refine Hb.take (v := .slice (some ⟨b, o, none⟩) 4 c) 5 8 rfl ?_ (fun _ _ => rfl)
  refine Hb.take 6 9 rfl ?_ (fun w' hw' => by go_simp; first | done | rfl)
  refine Hb.take 7 10 rfl ?_ (fun w' hw' => by have hc := (hw'.cell (p := ⟨b, o + 1, none⟩) hb0).trans h1; go_simp; rfl)
  refine Hb.take 8 11 rfl ?_ (fun w' hw' => by go_simp; first | done | rfl)
  refine Hb.take 9 12 rfl ?_ (fun w' hw' => by go_simp; first | done | rfl)
  refine Hb.take 10 13 rfl ?_ (fun w' hw' => by go_simp; first | done | rfl)
  refine Hb.take (v := .slice (some ⟨b, o, none⟩) 4 c) 11 14 rfl ?_ (fun _ _ => rfl)
  refine Hb.take 12 15 rfl ?_ (fun w' hw' => by go_simp; first | done | rfl)
  refine Hb.take 13 16 rfl ?_ (fun w' hw' => by have hc := (hw'.cell (p := ⟨b, o + 2, none⟩) hb0).trans h2; go_simp; rfl)
  refine Hb.take 14 17 rfl ?_ (fun w' hw' => by go_simp; first | done | rfl)
  refine Hb.take 15 18 rfl ?_ (fun w' hw' => by go_simp; first | done | rfl)
  refine Hb.take 16 19 rfl ?_ (fun w' hw' => by go_simp; first | done | rfl)
  refine Hb.take (v := .slice (some ⟨b, o, none⟩) 4 c) 17 20 rfl ?_ (fun _ _ => rfl)
  refine Hb.take 18 21 rfl ?_ (fun w' hw' => by go_simp; first | done | rfl)
  refine Hb.take 19 22 rfl ?_ (fun w' hw' => by have hc := (hw'.cell (p := ⟨b, o + 3, none⟩) hb0).trans h3; go_simp; rfl)
  refine Hb.take 20 23 rfl ?_ (fun w' hw' => by go_simp; first | done | rfl)
  refine Hb.take 21 24 rfl ?_ (fun w' hw' => by go_simp; first | done | rfl)
  refine Hb.take 22 2 rfl ?_ (fun w' hw' => by go_simp; first | done | rfl)
  refine Hb.done ?_
-- END
  go_wp2
  go_ret
  exact ⟨FIN.out, (Below.refl _ _).drew⟩

end Go.Proofs.YtgcpofiecbpfbaaDoor

/- A byte's cells in the program. -/
namespace Go.Proofs.YtgcpofiecbpfbaaDoor
open Go.RowKit

theorem byte_info : (Tryd.prog.info? 5).map (fun i => (i.zero, i.size, i.bytes)) = some (some (.int .u8 0), 1, 1) := by kernel_rfl

/-- '[]byte("..")' of a literal: the row that was just made gets a mark behind its last cell. -/
theorem wpList_lit {w : World} {ops : Array Oper} {rest : List Oper} {o : Oper} {a : Act} {Q : Exit → Act → World → Prop} (hgd : o.guard = none) (x : Operand) (ho : o.op = .convert 29 29 x)
    (C : Array Value) (c n : Nat) (hx : a.eval x = .slice (some ⟨w.heap.size, 0, none⟩) n c)
    (h : wpList Tryd.prog ops Q rest (a.put o.dst (.slice (some ⟨w.heap.size, 0, none⟩) n c)) (w.alloc (.cells C 5 (C.size, C.size + 1)))) : wpList Tryd.prog ops Q (o :: rest) a (w.alloc (.cells C 5)) := by
  refine wpList_plain hgd fun K hK => ?_
  unfold Oper.wp execOp
  simp only [ho, hx, Sem.run_bind, Lib.run_convert_bytes_const w 29 5 C n c Tryd.underlying29 Tryd.underlying5, Result.andThen_ok, Sem.run_pure]
  exact hK _ _ h
theorem Rd.lit (w : World) (us : Array Value) (e : TypeId) (fr : Nat × Nat) (k n : Nat) (hn : us.size = n * k) (hm : n ≤ maxLen) : Rd (w.alloc (.cells us e fr)) (w.heap.size + 1) (some ⟨w.heap.size, 0, none⟩) n k n us.toList :=
  ⟨by simpa using hn, Nat.le_refl _, hm, fun hh => (by cases hh), fun _ => ⟨w.heap.size, 0, rfl, by omega, fun j v hv => by
    rw [Nat.zero_add, cell_of_row _ _ j us e fr (heap_alloc_new w _)]; simpa using hv⟩⟩

end Go.Proofs.YtgcpofiecbpfbaaDoor

/- Contracts of crc.Seal and of the reference's. -/
namespace Go.Proofs.YtgcpofiecbpfbaaDoor
open Go.RowKit

theorem four_cells (s : Nat) (h : s < 4294967296) : #[Value.int .u8 ((s : Int) / 16777216), .int .u8 ((s : Int) / 65536 % 256), .int .u8 ((s : Int) / 256 % 256), .int .u8 ((s : Int) % 256)].toList = bs (PCrc.four s) := by
  simp only [bs, PCrc.four, List.map_cons, List.map_nil]
  have e : (s : Int) / 16777216 = ((s / 16777216 % 256 : Nat) : Int) := by omega
  have e2 : (s : Int) / 65536 % 256 = ((s / 65536 % 256 : Nat) : Int) := by omega
  have e3 : (s : Int) / 256 % 256 = ((s / 256 % 256 : Nat) : Int) := by omega
  have e4 : (s : Int) % 256 = ((s % 256 : Nat) : Int) := by omega
  rw [e, e2, e3, e4]

theorem isB_four (u : Nat) : isB (PCrc.four u) := by
  intro x hx
  simp only [PCrc.four, List.mem_cons, List.not_mem_nil, or_false] at hx
  omega
theorem isB_sealed {l : List Int} (h : isB l) : isB (PCrc.sealed l) := h.append (isB_four _)
theorem sealed_length (l : List Int) : (PCrc.sealed l).length = l.length + 4 := by simp [PCrc.sealed, PCrc.four]

set_option maxRecDepth 100000 in
theorem Seal_c (w : World) (B : Nat) (A : Option Addr) (c n : Nat) (l : List Int) (h : Rd w B A c 1 n (bs l)) (hb : isB l) (ht : Tab w) (hn : n ≤ 140000000000000) :
    Calls Tryd.prog 31 #[.slice A n c] w fun e w' => ∃ A' c', e = .returned (.slice A' (n + 4) c') ∧ w'.ownsRow w.heap.size 5 1 (.slice A' (n + 4) c') (n + 4) (bs (PCrc.sealed l)) ∧ Below w.heap.size w w' := by
  obtain ⟨i0, hi, hz0, hz1, hz2⟩ := info_parts byte_info
  have hs := PCrc.sum_lt hb
  have h4 := four_cells _ hs
  have H4 := Lib.hid h4; clear h4
  go_enter Tryd.func31, Tryd.ntmps31
  go_wp2_with fail
  refine (Sum_c w B A c n l h hb ht).mono ?_
  rintro e w1 ⟨rfl, rfl⟩
  have hse : PCrc.sealed l = l ++ PCrc.four (PCrc.sum l) := rfl
  have HSE := Lib.hid hse; clear hse
  generalize PCrc.sum l = s at *
  go_wp2_with (at_make; refine wpList_make_own _ rfl _ _ 29 rfl w.heap.size 5 i0 (.int .u8 0) 1 Tryd.underlying29 hi hz0 hz1 _ _ _ (n + 4) rfl rfl (by omega) ?b2 ?b3 (Nat.le_refl _) ?_)
  case b2 => rw [hz2]; omega
  case b3 => unfold maxLen; omega
  intro w0 hown0 hgrow0
  have hb0 : Below w.heap.size w w0 := (Below.refl _ _).grown hgrow0 (Nat.le_refl _) (fun k h => by cases h)
  have hr := h.past hb0
  have hsz0 := hb0.size
  go_wp2_with (at_builtin; refine wpList_app rfl (.tmp 11) (.tmp 12) _ rfl w.heap.size 5 _ 1 1 Tryd.underlying29 byte_info rfl (by omega) _ 0 [] rfl hown0 B A c n (bs l) rfl hr (bs_one l) (by unfold maxLen; omega) (by omega) hb0.size ?_)
  intro A' c' w1 hown1 hgrow1 hbel1
  have hown1' : w1.ownsRow w.heap.size 5 1 (.slice A' n c') n (bs l) := by simpa using hown1
  clear hown1
  have hsz1 := hbel1.size
  go_wp2_with (at_builtin; go_must (refine wpList_pushes rfl (.tmp 14) (.tmp 26) _ rfl w.heap.size 5 _ 1 1 4 Tryd.underlying29 byte_info rfl (by omega) rfl (by simp [maxLen]) A' c' n (bs l) rfl hown1' rfl ?c1 ?c2 ?c3 ?c4 ?_))
  case c1 => exact ⟨rfl, rfl, rfl, rfl⟩
  case c2 => unfold maxLen; omega
  case c3 => omega
  case c4 => omega
  intro A2 c2 w2 hown2 hgrow2 hbel2
  rw [H4.out, ← bs_append, ← HSE.out] at hown2
  go_wp2_with fail
  go_ret
  exact ⟨A2, c2, rfl, hown2, (hb0.trans hbel1).trans hbel2⟩

set_option maxRecDepth 100000 in
theorem rSeal_c (w : World) (B : Nat) (A : Option Addr) (c n : Nat) (l : List Int) (h : Rd w B A c 1 n (bs l)) (hb : isB l) (hn : n ≤ 140000000000000) :
    Calls Tryd.prog 34 #[.slice A n c] w fun e w' => ∃ A' c', e = .returned (.slice A' (n + 4) c') ∧ w'.ownsRow w.heap.size 5 1 (.slice A' (n + 4) c') (n + 4) (bs (PCrc.sealed l)) ∧ Below w.heap.size w w' := by
  have hs := PCrc.sum_lt hb
  have h4 := four_cells _ hs
  have H4 := Lib.hid h4; clear h4
  go_enter Tryd.func34, Tryd.ntmps34
  go_wp2_with fail
  refine (rSum_c w B A c n l h hb).mono ?_
  rintro e w1 ⟨rfl, rfl⟩
  have hse : PCrc.sealed l = l ++ PCrc.four (PCrc.sum l) := rfl
  have HSE := Lib.hid hse; clear hse
  generalize PCrc.sum l = s at *
  go_wp2_with (at_builtin; refine wpList_app rfl (.const (.slice none 0 0)) (.tmp 6) _ rfl w.heap.size 5 _ 1 1 Tryd.underlying29 byte_info rfl (by omega) _ 0 [] rfl (World.ownsRow_nil _ _ _ _) B A c n (bs l) rfl h (bs_one l) (by unfold maxLen; omega) (by omega) (Nat.le_refl _) ?_)
  intro A' c' w1 hown1 hgrow1 hbel1
  have hown1' : w1.ownsRow w.heap.size 5 1 (.slice A' n c') n (bs l) := by simpa using hown1
  clear hown1
  have hsz1 := hbel1.size
  go_wp2_with (at_builtin; go_must (refine wpList_pushes rfl (.tmp 7) (.tmp 19) _ rfl w.heap.size 5 _ 1 1 4 Tryd.underlying29 byte_info rfl (by omega) rfl (by simp [maxLen]) A' c' n (bs l) rfl hown1' rfl ?c1 ?c2 ?c3 ?c4 ?_))
  case c1 => exact ⟨rfl, rfl, rfl, rfl⟩
  case c2 => unfold maxLen; omega
  case c3 => omega
  case c4 => omega
  intro A2 c2 w2 hown2 hgrow2 hbel2
  rw [H4.out, ← bs_append, ← HSE.out] at hown2
  go_wp2_with fail
  go_ret
  exact ⟨A2, c2, rfl, hown2, hbel1.trans hbel2⟩

end Go.Proofs.YtgcpofiecbpfbaaDoor

/- Contract of crc.Open. -/
namespace Go.Proofs.YtgcpofiecbpfbaaDoor
open Go.RowKit

/-- What Open answers. -/
def openP (l : List Int) : List Int × Bool := if 4 ≤ l.length ∧ PCrc.sum (l.take (l.length - 4)) = PCrc.told (l.drop (l.length - 4)) then (l.take (l.length - 4), true) else ([], false)

/-- A slice with the bytes of the first, and whether there are any. -/
def OpenPost (w : World) (r : List Int × Bool) (e : Ending) (w' : World) : Prop :=
  ∃ A' c', e = .returned (.tuple #[.slice A' r.1.length c', .bool r.2]) ∧ Rd w' w'.heap.size A' c' 1 r.1.length (bs r.1) ∧ Below w.heap.size w w'

theorem openPost_no {w w' : World} {l : List Int} (h : openP l = ([], false)) (hb : Below w.heap.size w w') : OpenPost w (openP l) (.returned (.tuple #[.slice none 0 0, .bool false])) w' := by
  rw [h]; exact ⟨none, 0, rfl, Rd.nil _ _ _, hb⟩

set_option maxRecDepth 100000 in
theorem Open_c (w : World) (B : Nat) (A : Option Addr) (c n : Nat) (l : List Int) (h : Rd w B A c 1 n (bs l)) (hb : isB l) (ht : Tab w) (hn : n ≤ 140000000000000) :
    Calls Tryd.prog 36 #[.slice A n c] w (OpenPost w (openP l)) := by
  obtain ⟨i0, hi, hz0, hz1, hz2⟩ := info_parts byte_info
  have hlen := h.blen
  by_cases h4 : n < 4
  · have hp : openP l = ([], false) := by unfold openP; rw [if_neg (by omega)]
    have HP := Lib.hid hp; clear hp hlen
    go_enter Tryd.func36, Tryd.ntmps36
    go_wp2
-- REGION curfew/crc.Open 2 open2few 4
    refine Hb.begin ?_
    refine Hb.take (v := .int .i64 ((n : Int) - 4)) 0 8 rfl ?_ (fun _ _ => rfl)
    refine Hb.take (v := .bool true) 1 9 rfl ?_ (fun w' hw' => by go_simp; first | done | omega | (simp; omega))
    refine Hb.take (v := .bool true) 2 10 rfl ?_ (fun _ _ => rfl)
    refine Hb.pass 3 11 rfl ?_
    refine Hb.pass 4 12 rfl ?_
    refine Hb.pass 5 13 rfl ?_
    refine Hb.pass 6 14 rfl ?_
    refine Hb.pass 7 15 rfl ?_
    refine Hb.pass 8 16 rfl ?_
    refine Hb.pass 9 17 rfl ?_
    refine Hb.pass 10 18 rfl ?_
    refine Hb.pass 11 19 rfl ?_
    refine Hb.take (v := Value.bool true) 12 20 rfl ?_ (fun _ _ => rfl)
    refine Hb.done ?_
-- END
    go_wp2
    go_ret2
    exact openPost_no HP.out ((Below.refl _ _).drew)
  · obtain ⟨A1, c1, C1, h1⟩ := cut_any (P := Tryd.prog) 29 5 Tryd.underlying29 byte_info h none (some (.int .i64 ((n : Int) - 4))) 0 (n - 4) 0 ((n : Int) - 4) (.inl ⟨rfl, rfl⟩) (.inr ⟨rfl, by omega⟩) (by omega) (by omega)
    obtain ⟨A2, c2, C2, h2⟩ := cut_any (P := Tryd.prog) 29 5 Tryd.underlying29 byte_info h (some (.int .i64 ((n : Int) - 4))) none (n - 4) n ((n : Int) - 4) 0 (.inr ⟨rfl, by omega⟩) (.inl ⟨rfl, rfl⟩) (by omega) (by omega)
    simp only [Nat.sub_zero, List.drop_zero, Nat.mul_one, ← bs_take] at C1 h1
    have e4 : n - (n - 4) = 4 := by omega
    rw [e4] at C2 h2
    clear e4
    rw [Nat.mul_one, Nat.mul_one, ← bs_drop, ← bs_take, List.take_of_length_le (by rw [List.length_drop]; omega)] at h2
    obtain ⟨x0, x1, x2, x3, hx⟩ : ∃ x0 x1 x2 x3 : Nat, l.drop (n - 4) = [(x0 : Int), (x1 : Int), (x2 : Int), (x3 : Int)] := by
      have hl : (l.drop (n - 4)).length = 4 := by rw [List.length_drop]; omega
      have hB := hb.drop (n - 4)
      match hm : l.drop (n - 4), hl with
      | [y0, y1, y2, y3], _ =>
        rw [hm] at hB
        have g0 := hB y0 (by simp); have g1 := hB y1 (by simp); have g2 := hB y2 (by simp); have g3 := hB y3 (by simp)
        exact ⟨y0.toNat, y1.toNat, y2.toNat, y3.toNat, by simp; omega⟩
    have hB := hb.drop (n - 4)
    rw [hx] at h2 hB
    have l0 := (hB x0 (by simp)).2; have l1 := (hB x1 (by simp)).2; have l2 := (hB x2 (by simp)).2; have l3 := (hB x3 (by simp)).2
    obtain ⟨b, o, rfl, hbB, hc2⟩ := h2.2.2.2.2 (by omega)
    have h20 : w.cell? ⟨b, o, none⟩ = some (.int .u8 x0) := hc2 0 _ rfl
    have h21 : w.cell? ⟨b, o + 1, none⟩ = some (.int .u8 x1) := hc2 1 _ rfl
    have h22 : w.cell? ⟨b, o + 2, none⟩ = some (.int .u8 x2) := hc2 2 _ rfl
    have h23 : w.cell? ⟨b, o + 3, none⟩ = some (.int .u8 x3) := hc2 3 _ rfl
    clear hc2 h2 hB
    have hu : openP l = if PCrc.sum (l.take (n - 4)) = PCrc.told [(x0 : Int), (x1 : Int), (x2 : Int), (x3 : Int)] then (l.take (n - 4), true) else ([], false) := by
      unfold openP; rw [hlen, hx]
      simp only [show 4 ≤ n from by omega, true_and]
    have htl : (l.take (n - 4)).length = n - 4 := by rw [List.length_take]; omega
    have HTL := Lib.hid htl; clear htl
    have HLEN := Lib.hid hlen; clear hlen hx
    have l0' : x0 < 256 := by omega
    have l1' : x1 < 256 := by omega
    have l2' : x2 < 256 := by omega
    have l3' : x3 < 256 := by omega
    clear l0 l1 l2 l3
    generalize hsu : PCrc.sum (l.take (n - 4)) = u at hu
    generalize htv : PCrc.told [(x0 : Int), (x1 : Int), (x2 : Int), (x3 : Int)] = v at hu
    have HSU := Lib.hid hsu; clear hsu
    have HTV := Lib.hid htv; clear htv
    by_cases hq : u = v
    · subst hq
      rw [if_pos rfl] at hu
      have HU := Lib.hid hu; clear hu
      go_enter Tryd.func36, Tryd.ntmps36
      go_wp2
-- REGION curfew/crc.Open 2 open2eq 6
      refine Hb.begin ?_
      refine Hb.take (v := .int .i64 ((n : Int) - 4)) 0 8 rfl ?_ (fun _ _ => rfl)
      refine Hb.take (v := .bool false) 1 9 rfl ?_ (fun w' hw' => by go_simp; first | done | omega | (simp; omega))
      refine Hb.take (v := .bool false) 2 10 rfl ?_ (fun _ _ => rfl)
      refine Hb.take (v := .slice A n c) 3 11 rfl ?_ (fun _ _ => rfl)
      refine Hb.take (v := .int .i64 ((n : Int) - 4)) 4 12 rfl ?_ (fun _ _ => rfl)
      refine Hb.take (v := .slice A1 (n - 4) c1) 5 13 rfl ?_ (fun w' hw' => by exact run_sliceOp (C1 w'))
      refine Hb.take (v := .slice A n c) 7 15 rfl ?_ (fun _ _ => rfl)
      refine Hb.take (v := .int .i64 ((n : Int) - 4)) 8 16 rfl ?_ (fun _ _ => rfl)
      refine Hb.take (v := .slice (some ⟨b, o, none⟩) 4 c2) 9 17 rfl ?_ (fun w' hw' => by exact run_sliceOp (C2 w'))
      refine Hb.call (f := 49) (args := #[.slice A1 (n - 4) c1]) 6 14 rfl ?_ (run_callf Tryd.func49 (by kernel_rfl) (by kernel_rfl) (by simp only [List.map_toArray, List.map_cons, List.map_nil]; rfl))
      refine (Sum_c w.drew _ A1 c1 (n - 4) (l.take (n - 4)) h1 (hb.take _) ht).mono ?_
      rw [HSU.out]
      rintro e w1 ⟨rfl, rfl⟩
      refine Hb.back (Below.refl _ _) (Nat.le_refl _) ?_
      refine Hb.call (f := 53) (args := #[.slice (some ⟨b, o, none⟩) 4 c2]) 10 18 rfl ?_ (run_callf Tryd.func53 (by kernel_rfl) (by kernel_rfl) (by simp only [List.map_toArray, List.map_cons, List.map_nil]; rfl))
      refine (sumAt_c w.drew b o c2 x0 x1 x2 x3 h20 h21 h22 h23 l0' l1' l2' l3').mono ?_
      rw [HTV.out]
      rintro e w1 ⟨rfl, hb1⟩
      refine Hb.back hb1 (Nat.le_refl _) ?_
      refine Hb.take (v := .bool false) 11 19 rfl ?_ (fun w' hw' => by go_simp; first | done | omega | (simp; omega))
      refine Hb.take (v := .bool false) 12 20 rfl ?_ (fun _ _ => rfl)
      refine Hb.done ?_
-- END
      go_wp2
      have h1' := (h1.drew.past hb1).drew
      have hsz1 : w.heap.size ≤ w1.drew.heap.size := hb1.size
-- REGION curfew/crc.Open 4 open4 6
      refine Hb.begin ?_
      refine Hb.take (v := .int .i64 ((n : Int) - 4)) 0 21 rfl ?_ (fun _ _ => rfl)
      refine Hb.take (v := .slice A n c) 2 23 rfl ?_ (fun _ _ => rfl)
      refine Hb.take (v := .int .i64 ((n : Int) - 4)) 3 24 rfl ?_ (fun _ _ => rfl)
      refine Hb.take (v := .slice A1 (n - 4) c1) 4 25 rfl ?_ (fun w' hw' => by exact run_sliceOp (C1 w'))
      refine Hb.only 1 (some 22) rfl ?_
      refine wpList_make_own _ rfl _ _ 29 rfl w1.drew.heap.size 5 i0 (.int .u8 0) 1 Tryd.underlying29 hi hz0 hz1 _ _ _ (n - 4) rfl rfl ?b1 ?b2 ?b3 (Nat.le_refl _) ?_
      case b1 => omega
      case b2 => rw [hz2]; omega
      case b3 => unfold maxLen; omega
      intro w2 hown2 hgrow2
      have hb2 : Below w1.drew.heap.size w1.drew w2 := (Below.refl _ _).grown hgrow2 (Nat.le_refl _) (fun k h => by cases h)
      refine Hb.next hb2 (Nat.le_refl _) ?_
      refine Hb.only 5 (some 26) rfl ?_
      refine wpList_app rfl (.tmp 22) (.tmp 25) _ rfl w1.drew.heap.size 5 _ 1 1 Tryd.underlying29 byte_info rfl (by omega) _ 0 [] rfl hown2 _ A1 c1 (n - 4) (bs (l.take (n - 4))) rfl (h1'.past hb2) (bs_one _) ?d1 ?d2 hb2.size ?_
      case d1 => unfold maxLen; omega
      case d2 => omega
      intro A3 c3 w3 hown3 hgrow3 hb3
      refine Hb.next hb3 (Nat.le_refl _) ?_
      refine Hb.take (v := .slice A3 (0 + (n - 4)) c3) 6 2 rfl ?_ (fun _ _ => rfl)
      refine Hb.take (v := Value.bool true) 7 3 rfl ?_ (fun _ _ => rfl)
      refine Hb.done ?_
-- END
      go_wp2
      go_ret2
      have el : 0 + (n - 4) = n - 4 := by omega
      have hr3 := Rd.of_own hown3
      rw [el, List.nil_append] at hr3
      refine ⟨A3, c3, ?_, ?_, (((Below.refl _ _).drew.trans hb1).drew.trans ((hb2.trans hb3).mono hsz1))⟩
      · rw [HU.out, HTL.out, el]; rfl
      · rw [HU.out, HTL.out]; exact hr3
    · rw [if_neg hq] at hu
      have HU := Lib.hid hu; clear hu
      have hne : ((u : Int) != (v : Int)) = true := by simp; omega
      clear hq
      go_enter Tryd.func36, Tryd.ntmps36
      go_wp2
-- REGION curfew/crc.Open 2 open2ne 6
      refine Hb.begin ?_
      refine Hb.take (v := .int .i64 ((n : Int) - 4)) 0 8 rfl ?_ (fun _ _ => rfl)
      refine Hb.take (v := .bool false) 1 9 rfl ?_ (fun w' hw' => by go_simp; first | done | omega | (simp; omega))
      refine Hb.take (v := .bool false) 2 10 rfl ?_ (fun _ _ => rfl)
      refine Hb.take (v := .slice A n c) 3 11 rfl ?_ (fun _ _ => rfl)
      refine Hb.take (v := .int .i64 ((n : Int) - 4)) 4 12 rfl ?_ (fun _ _ => rfl)
      refine Hb.take (v := .slice A1 (n - 4) c1) 5 13 rfl ?_ (fun w' hw' => by exact run_sliceOp (C1 w'))
      refine Hb.take (v := .slice A n c) 7 15 rfl ?_ (fun _ _ => rfl)
      refine Hb.take (v := .int .i64 ((n : Int) - 4)) 8 16 rfl ?_ (fun _ _ => rfl)
      refine Hb.take (v := .slice (some ⟨b, o, none⟩) 4 c2) 9 17 rfl ?_ (fun w' hw' => by exact run_sliceOp (C2 w'))
      refine Hb.call (f := 49) (args := #[.slice A1 (n - 4) c1]) 6 14 rfl ?_ (run_callf Tryd.func49 (by kernel_rfl) (by kernel_rfl) (by simp only [List.map_toArray, List.map_cons, List.map_nil]; rfl))
      refine (Sum_c w.drew _ A1 c1 (n - 4) (l.take (n - 4)) h1 (hb.take _) ht).mono ?_
      rw [HSU.out]
      rintro e w1 ⟨rfl, rfl⟩
      refine Hb.back (Below.refl _ _) (Nat.le_refl _) ?_
      refine Hb.call (f := 53) (args := #[.slice (some ⟨b, o, none⟩) 4 c2]) 10 18 rfl ?_ (run_callf Tryd.func53 (by kernel_rfl) (by kernel_rfl) (by simp only [List.map_toArray, List.map_cons, List.map_nil]; rfl))
      refine (sumAt_c w.drew b o c2 x0 x1 x2 x3 h20 h21 h22 h23 l0' l1' l2' l3').mono ?_
      rw [HTV.out]
      rintro e w1 ⟨rfl, hb1⟩
      refine Hb.back hb1 (Nat.le_refl _) ?_
      refine Hb.take (v := .bool true) 11 19 rfl ?_ (fun w' hw' => by go_simp; first | done | omega | (simp; omega))
      refine Hb.take (v := .bool true) 12 20 rfl ?_ (fun _ _ => rfl)
      refine Hb.done ?_
-- END
      go_wp2
      go_ret2
      exact openPost_no HU.out ((Below.refl _ _).drew.trans hb1)

end Go.Proofs.YtgcpofiecbpfbaaDoor

/- Plain mathematics of CRC-32, more: bytes that were changed. No program is named here. -/
namespace Go.Proofs.YtgcpofiecbpfbaaDoor.PCrc

theorem mix_set {α : Type} (D Z : List α) (h : D.length = Z.length) (i : Nat) (v : α) (hv : D[i]? = some v) : (D.take i ++ Z.drop i).set i v = D.take (i + 1) ++ Z.drop (i + 1) := by
  have hi : i < D.length := (List.getElem?_eq_some_iff.1 hv).1
  have hl : (D.take i).length = i := by rw [List.length_take]; omega
  rw [List.set_append_right _ _ (by omega), hl, Nat.sub_self, List.drop_eq_getElem_cons (by omega : i < Z.length), List.set_cons_zero]
  have : D.take (i + 1) = D.take i ++ [v] := by
    rw [List.take_succ_eq_append_getElem hi]
    have := List.getElem?_eq_getElem hi
    rw [hv] at this
    rw [Option.some.inj this]
  rw [this, List.append_assoc]; rfl

theorem xors_append : ∀ a b c d : List Int, a.length = c.length → xors (a ++ b) (c ++ d) = xors a c ++ xors b d
  | [], b, [], d, _ => rfl
  | x :: a, b, y :: c, d, h => by simp [xors, xors_append a b c d (by simpa using h)]
  | [], b, y :: c, d, h => by simp at h
  | x :: a, b, [], d, h => by simp at h
theorem xors_zeros : ∀ a : List Int, (∀ x ∈ a, 0 ≤ x ∧ x < 256) → xors a (List.replicate a.length 0) = a
  | [], _ => rfl
  | x :: a, h => by
    have hx := h x (by simp)
    have hr := xors_zeros a (fun y hy => h y (by simp [hy]))
    simp only [List.length_cons, List.replicate_succ, xors, hr]
    simp; omega
theorem xors_get : ∀ (a b : List Int) (i : Nat) (x y : Int), a[i]? = some x → b[i]? = some y → (xors a b)[i]? = some ((x.toNat ^^^ y.toNat : Nat) : Int)
  | u :: a, v :: b, 0, x, y, h1, h2 => by simp at h1 h2; subst h1 h2; simp [xors]
  | u :: a, v :: b, i + 1, x, y, h1, h2 => by simp at h1 h2; simpa [xors] using xors_get a b i x y h1 h2
  | [], _, _, _, _, h, _ => by simp at h
  | _ :: _, [], _, _, _, _, h => by simp at h
theorem xors_byte {a b : List Int} (ha : ∀ x ∈ a, 0 ≤ x ∧ x < 256) (hb : ∀ x ∈ b, 0 ≤ x ∧ x < 256) : ∀ x ∈ xors a b, 0 ≤ x ∧ x < 256 := by
  induction a generalizing b with
  | nil => intro x hx; simp [xors] at hx
  | cons u a ih =>
    cases b with
    | nil => intro x hx; simp [xors] at hx
    | cons v b =>
      intro x hx
      rcases List.mem_cons.1 hx with rfl | hx
      · have h1 := ha u (by simp); have h2 := hb v (by simp)
        have := Nat.xor_lt_two_pow (n := 8) (x := u.toNat) (y := v.toNat) (by omega) (by omega)
        omega
      · exact ih (fun y hy => ha y (by simp [hy])) (fun y hy => hb y (by simp [hy])) x hx
theorem xors_take (a b : List Int) (i : Nat) : (xors a b).take i = xors (a.take i) (b.take i) := by
  induction a generalizing b i with
  | nil => simp [xors]
  | cons u a ih =>
    cases b with
    | nil => cases i <;> simp [xors]
    | cons v b => cases i with
      | zero => simp [xors]
      | succ i => simp [xors, ih]

/-- Some bytes amid others, laid over. -/
def lay (l x : List Int) (i : Nat) : List Int := l.take i ++ (xors ((l.drop i).take x.length) x ++ l.drop (i + x.length))
theorem lay_length (l x : List Int) (i : Nat) (h : i + x.length ≤ l.length) : (lay l x i).length = l.length := by
  unfold lay
  rw [List.length_append, List.length_append, xors_length _ _ (by rw [List.length_take, List.length_drop]; omega), List.length_take, List.length_take, List.length_drop, List.length_drop]; omega
theorem lay_append (l m x : List Int) (i : Nat) (h : i + x.length ≤ l.length) : lay (l ++ m) x i = lay l x i ++ m := by
  unfold lay
  rw [List.take_append_of_le_length (by omega), List.drop_append_of_le_length (by omega), List.take_append_of_le_length (by rw [List.length_drop]; omega), List.drop_append_of_le_length (by omega)]
  simp
theorem lay_xors (l x : List Int) (i : Nat) (h : i + x.length ≤ l.length) (hb : ∀ y ∈ l, 0 ≤ y ∧ y < 256) : lay l x i = xors l (List.replicate i 0 ++ (x ++ List.replicate (l.length - i - x.length) 0)) := by
  have e1 : l = l.take i ++ ((l.drop i).take x.length ++ l.drop (i + x.length)) := by
    have : l.drop (i + x.length) = (l.drop i).drop x.length := by rw [List.drop_drop]
    rw [this, List.take_append_drop, List.take_append_drop]
  have l1 : (l.take i).length = i := by rw [List.length_take]; omega
  have l2 : ((l.drop i).take x.length).length = x.length := by rw [List.length_take, List.length_drop]; omega
  have l3 : (l.drop (i + x.length)).length = l.length - i - x.length := by rw [List.length_drop]; omega
  have b1 : ∀ y ∈ l.take i, 0 ≤ y ∧ y < 256 := fun y hy => hb y (List.mem_of_mem_take hy)
  have b3 : ∀ y ∈ l.drop (i + x.length), 0 ≤ y ∧ y < 256 := fun y hy => hb y (List.mem_of_mem_drop hy)
  conv => rhs; rw [e1]
  rw [xors_append _ _ _ _ (by rw [l1, List.length_replicate]), xors_append _ _ _ _ l2]
  unfold lay
  have z1 := xors_zeros _ b1
  have z3 := xors_zeros _ b3
  rw [l1] at z1
  rw [l3] at z3
  rw [z1]
  congr 2
  rw [show (List.take i l ++ (List.take x.length (List.drop i l) ++ List.drop (i + x.length) l)).length - i - x.length = l.length - i - x.length from by rw [← e1]]
  exact z3.symm
theorem lay_take (l x : List Int) (i : Nat) (h : i + x.length ≤ l.length) : (lay l x i).take i = l.take i := by
  unfold lay
  rw [List.take_append_of_le_length (by rw [List.length_take]; omega), List.take_take, Nat.min_self]
theorem lay_drop (l x : List Int) (i : Nat) (h : i + x.length ≤ l.length) : (lay l x i).drop (i + x.length) = l.drop (i + x.length) := by
  unfold lay
  have l1 : (l.take i).length = i := by rw [List.length_take]; omega
  have l2 : (xors ((l.drop i).take x.length) x).length = x.length := by
    have : ((l.drop i).take x.length).length = x.length := by rw [List.length_take, List.length_drop]; omega
    rw [xors_length _ _ this, this]
  rw [← List.append_assoc, List.drop_append, List.length_append, l1, l2, Nat.sub_self, List.drop_zero, List.drop_of_length_le (by rw [List.length_append, l1, l2]; omega), List.nil_append]
theorem lay_get (l x : List Int) (i j : Nat) (h : i + x.length ≤ l.length) (u v : Int) (hu : l[i + j]? = some u) (hv : x[j]? = some v) : (lay l x i)[i + j]? = some ((u.toNat ^^^ v.toNat : Nat) : Int) := by
  have hj : j < x.length := (List.getElem?_eq_some_iff.1 hv).1
  have l1 : (l.take i).length = i := by rw [List.length_take]; omega
  have l2 : (xors ((l.drop i).take x.length) x).length = x.length := by
    have : ((l.drop i).take x.length).length = x.length := by rw [List.length_take, List.length_drop]; omega
    rw [xors_length _ _ this, this]
  unfold lay
  rw [List.getElem?_append_right (by omega), l1, Nat.add_sub_cancel_left, List.getElem?_append_left (by omega)]
  refine xors_get _ _ j u v ?_ hv
  rw [List.getElem?_take, if_pos hj, List.getElem?_drop, hu]
theorem lay_one (l : List Int) (j : Nat) (u : Int) (x : Nat) (hu : l[j]? = some u) : l.set j ((u.toNat ^^^ x : Nat) : Int) = lay l [(x : Int)] j := by
  have hj : j < l.length := (List.getElem?_eq_some_iff.1 hu).1
  have e : (l.drop j).take 1 = [u] := by
    rw [List.drop_eq_getElem_cons hj, List.take_succ_cons, List.take_zero]
    rw [List.getElem?_eq_getElem hj] at hu; rw [Option.some.inj hu]
  unfold lay
  rw [List.length_singleton, e, List.set_eq_take_append_cons_drop, if_pos hj]
  simp [xors]
theorem lay_byte {l x : List Int} (i : Nat) (hl : ∀ y ∈ l, 0 ≤ y ∧ y < 256) (hx : ∀ y ∈ x, 0 ≤ y ∧ y < 256) : ∀ y ∈ lay l x i, 0 ≤ y ∧ y < 256 := by
  intro y hy
  unfold lay at hy
  rcases List.mem_append.1 hy with hy | hy
  · exact hl y (List.mem_of_mem_take hy)
  rcases List.mem_append.1 hy with hy | hy
  · exact xors_byte (fun z hz => hl z (List.mem_of_mem_drop (List.mem_of_mem_take hz))) hx y hy
  · exact hl y (List.mem_of_mem_drop hy)

/-- The data of sealed bytes, changed in up to four places behind one another: another sum. -/
theorem lay_sum (l x : List Int) (i : Nat) (h : i + x.length ≤ l.length) (hb : ∀ y ∈ l, 0 ≤ y ∧ y < 256) (hx : ∀ y ∈ x, 0 ≤ y ∧ y < 256) (h4 : x.length ≤ 4) (h0 : ∃ y ∈ x, y ≠ 0) : sum (lay l x i) ≠ sum l := by
  rw [lay_xors l x i h hb]
  refine sum_other l _ ?_ (burst i _ x hx h4 h0)
  rw [List.length_append, List.length_append, List.length_replicate, List.length_replicate]; omega

theorem lay_ne (l : List Int) (i : Nat) (x : Int) (hi : i < l.length) (hl : ∀ y ∈ l, 0 ≤ y ∧ y < 256) (hx : 0 ≤ x ∧ x < 256) (h0 : x ≠ 0) : lay l [x] i ≠ l := by
  intro e
  have hg := lay_get l [x] i 0 (by simp; omega) l[i] x (by simp [hi]) rfl
  rw [e, Nat.add_zero, List.getElem?_eq_getElem hi] at hg
  have h1 := hl l[i] (List.getElem_mem hi)
  have h2 : (l[i].toNat ^^^ x.toNat) = l[i].toNat := by have := Option.some.inj hg; omega
  have h3 : l[i].toNat ^^^ (l[i].toNat ^^^ x.toNat) = l[i].toNat ^^^ l[i].toNat := by rw [h2]
  rw [← Nat.xor_assoc, Nat.xor_self, Nat.zero_xor] at h3
  omega

end Go.Proofs.YtgcpofiecbpfbaaDoor.PCrc

/- What Open answers of sealed bytes, whole or changed in a place. No program is named here. -/
namespace Go.Proofs.YtgcpofiecbpfbaaDoor
open Go.RowKit

theorem openP_by_seal {l : List Int} (hb : isB l) : openP l = if 4 ≤ l.length ∧ PCrc.sealed (l.take (l.length - 4)) = l then (l.take (l.length - 4), true) else ([], false) := by
  unfold openP
  have h : 4 ≤ l.length → (PCrc.sum (l.take (l.length - 4)) = PCrc.told (l.drop (l.length - 4)) ↔ PCrc.sealed (l.take (l.length - 4)) = l) := by
    intro h4
    have e : l = l.take (l.length - 4) ++ l.drop (l.length - 4) := (List.take_append_drop _ _).symm
    have hl : (l.drop (l.length - 4)).length = 4 := by rw [List.length_drop]; omega
    constructor
    · intro hs
      unfold PCrc.sealed
      rw [hs, PCrc.four_told (hb.drop _) hl, List.take_append_drop]
    · intro hs
      conv at hs => rhs; rw [e]
      unfold PCrc.sealed at hs
      have := List.append_cancel_left hs
      rw [← this, PCrc.told_four (PCrc.sum_lt (hb.take _))]
  by_cases h4 : 4 ≤ l.length
  · simp only [h4, true_and, h h4]
  · simp [h4]

theorem openP_sealed {l : List Int} (hb : isB l) : openP (PCrc.sealed l) = (l, true) := by
  have hl : (PCrc.sealed l).length = l.length + 4 := sealed_length l
  unfold openP
  have e1 : (PCrc.sealed l).take ((PCrc.sealed l).length - 4) = l := by
    rw [hl, Nat.add_sub_cancel]; unfold PCrc.sealed; exact List.take_left
  have e2 : (PCrc.sealed l).drop ((PCrc.sealed l).length - 4) = PCrc.four (PCrc.sum l) := by
    rw [hl, Nat.add_sub_cancel]; unfold PCrc.sealed; exact List.drop_left
  rw [e1, e2, PCrc.told_four (PCrc.sum_lt hb), if_pos ⟨by omega, rfl⟩]

theorem openP_of {d q : List Int} (hq : q.length = 4) (h : PCrc.sum d ≠ PCrc.told q) : openP (d ++ q) = ([], false) := by
  unfold openP
  have e : (d ++ q).length - 4 = d.length := by rw [List.length_append]; omega
  rw [e, List.take_left, List.drop_left, if_neg (fun h' => h h'.2)]

theorem openP_burst {b x : List Int} {i : Nat} (hb : isB b) (hx : isB x) (h : i + x.length ≤ b.length) (h4 : x.length ≤ 4) (h0 : ∃ y ∈ x, y ≠ 0) : openP (PCrc.lay (PCrc.sealed b) x i) = ([], false) := by
  unfold PCrc.sealed
  rw [PCrc.lay_append _ _ _ _ h]
  refine openP_of (by simp [PCrc.four]) ?_
  rw [PCrc.told_four (PCrc.sum_lt hb)]
  exact PCrc.lay_sum b x i h hb hx h4 h0

theorem openP_each {b : List Int} {x : Int} {i : Nat} (hb : isB b) (hx : 0 ≤ x ∧ x < 256) (h : i < b.length + 4) (h0 : x ≠ 0) : openP (PCrc.lay (PCrc.sealed b) [x] i) = ([], false) := by
  have hX : isB [x] := by intro y hy; simp at hy; subst hy; exact hx
  by_cases hi : i < b.length
  · exact openP_burst hb hX (by simp; omega) (by simp) ⟨x, by simp, h0⟩
  · have hS := isB_sealed hb
    have hne := PCrc.lay_ne (PCrc.sealed b) i x (by rw [sealed_length]; omega) hS hx h0
    have hlen : (PCrc.lay (PCrc.sealed b) [x] i).length = b.length + 4 := by rw [PCrc.lay_length _ _ _ (by rw [sealed_length]; simp; omega), sealed_length]
    have ht : (PCrc.lay (PCrc.sealed b) [x] i).take b.length = b := by
      have e1 : (PCrc.lay (PCrc.sealed b) [x] i).take b.length = ((PCrc.lay (PCrc.sealed b) [x] i).take i).take b.length := by rw [List.take_take, Nat.min_eq_left (by omega)]
      rw [e1, PCrc.lay_take _ _ _ (by rw [sealed_length]; simp; omega), List.take_take, Nat.min_eq_left (by omega)]
      unfold PCrc.sealed; exact List.take_left
    have hB : isB (PCrc.lay (PCrc.sealed b) [x] i) := PCrc.lay_byte i hS hX
    generalize PCrc.lay (PCrc.sealed b) [x] i = D at *
    have hd : (D.drop b.length).length = 4 := by rw [List.length_drop]; omega
    have hD : D = b ++ D.drop b.length := by conv => lhs; rw [← List.take_append_drop b.length D, ht]
    rw [hD]
    refine openP_of hd fun hs => hne ?_
    rw [hD, PCrc.sealed, hs, PCrc.four_told (hB.drop _) hd]

end Go.Proofs.YtgcpofiecbpfbaaDoor

/- Plain mathematics of messages: which may be, their bytes, what is read of bytes. No program is named here. -/
namespace Go.Proofs.YtgcpofiecbpfbaaDoor

/-- A message. -/
structure Msg where
  kind : Int
  fr : Int
  dst : Int
  boot : Int
  view : Int
  last : Int
  mem : Int
  pos : Int
  es : List Ent
  com : Int
  num : Int
  clk : Int
  yes : Bool

namespace PMsg

/-- It may be. -/
def May (m : Msg) : Prop := (1 ≤ m.kind ∧ m.kind ≤ 13) ∧ (1 ≤ m.fr ∧ m.fr ≤ 7) ∧ (1 ≤ m.dst ∧ m.dst ≤ 7) ∧ m.fr ≠ m.dst ∧ (1 ≤ m.boot ∧ m.boot ≤ 1099511627776) ∧ (0 ≤ m.view ∧ m.view ≤ 1099511627776) ∧ (0 ≤ m.last ∧ m.last ≤ 1099511627776) ∧
  (0 ≤ m.mem ∧ m.mem ≤ 127) ∧ (0 ≤ m.pos ∧ m.pos ≤ 60) ∧ (0 ≤ m.com ∧ m.com ≤ 60) ∧ (0 ≤ m.num ∧ m.num ≤ 1099511627776) ∧ (0 ≤ m.clk ∧ m.clk ≤ 1099511627776) ∧ m.es.length ≤ 60 ∧ m.es.all PEnt.may = true
instance (m : Msg) : Decidable (May m) := by unfold May; infer_instance
def may (m : Msg) : Bool := decide (May m)
theorem may_iff (m : Msg) : may m = true ↔ May m := by simp [may]
theorem may_no {m : Msg} : may m = false ↔ ¬ May m := by simp [may]

def bit (b : Bool) : Int := if b = true then 1 else 0
theorem bit_inj {a b : Bool} : bit a = bit b ↔ a = b := by cases a <;> cases b <;> simp [bit]
/-- Its numbers, in the order in which they are written. -/
def ns (m : Msg) : List Int := [m.kind, m.fr, m.dst, m.boot, m.view, m.last, m.mem, m.pos, m.com, m.num, m.clk, bit m.yes, (m.es.length : Int)]
theorem ns_length (m : Msg) : (ns m).length = 13 := rfl
/-- A message of numbers and entries. -/
def ofN (x : List Int) (es : List Ent) : Msg := ⟨x.getD 0 0, x.getD 1 0, x.getD 2 0, x.getD 3 0, x.getD 4 0, x.getD 5 0, x.getD 6 0, x.getD 7 0, es, x.getD 8 0, x.getD 9 0, x.getD 10 0, x.getD 11 0 == 1⟩
theorem ofN_ns (m : Msg) : ofN (ns m) m.es = m := by
  obtain ⟨a, b, c, d, e, f, g, h, i, j, k, l, y⟩ := m
  cases y <;> rfl

/-- The same, number by number; all the same. -/
def eqN (a b : Msg) : Bool := a.kind == b.kind && a.fr == b.fr && a.dst == b.dst && a.boot == b.boot && a.view == b.view && a.last == b.last && a.mem == b.mem && a.pos == b.pos && a.com == b.com && a.num == b.num && a.clk == b.clk && a.yes == b.yes
def eqM (a b : Msg) : Bool := eqN a b && PEnt.eqL a.es b.es
theorem eqM_iff (a b : Msg) : eqM a b = true ↔ a = b := by
  obtain ⟨a0, a1, a2, a3, a4, a5, a6, a7, a8, a9, a10, a11, a12⟩ := a
  obtain ⟨b0, b1, b2, b3, b4, b5, b6, b7, b8, b9, b10, b11, b12⟩ := b
  simp only [eqM, eqN, Bool.and_eq_true, beq_iff_eq, Msg.mk.injEq, PEnt.eqL_iff]
  constructor
  · rintro ⟨⟨⟨⟨⟨⟨⟨⟨⟨⟨⟨⟨h0, h1⟩, h2⟩, h3⟩, h4⟩, h5⟩, h6⟩, h7⟩, h9⟩, h10⟩, h11⟩, h12⟩, h8⟩; exact ⟨h0, h1, h2, h3, h4, h5, h6, h7, h8, h9, h10, h11, h12⟩
  · rintro ⟨h0, h1, h2, h3, h4, h5, h6, h7, h8, h9, h10, h11, h12⟩; exact ⟨⟨⟨⟨⟨⟨⟨⟨⟨⟨⟨⟨h0, h1⟩, h2⟩, h3⟩, h4⟩, h5⟩, h6⟩, h7⟩, h9⟩, h10⟩, h11⟩, h12⟩, h8⟩
theorem eqM_refl (a : Msg) : eqM a a = true := (eqM_iff a a).2 rfl
theorem eqM_no {a b : Msg} (h : a ≠ b) : eqM a b = false := by
  cases h' : eqM a b with
  | false => rfl
  | true => exact absurd ((eqM_iff a b).1 h') h
/-- By the lists of numbers. -/
theorem eqM_ns (a b : Msg) : eqM a b = (decide (ns a = ns b) && PEnt.eqL a.es b.es) := by
  rw [Bool.eq_iff_iff, eqM_iff, Bool.and_eq_true, decide_eq_true_eq, PEnt.eqL_iff]
  constructor
  · rintro rfl; exact ⟨rfl, rfl⟩
  · rintro ⟨h1, h2⟩; rw [← ofN_ns a, ← ofN_ns b, h1, h2]

theorem ns_may {m : Msg} (h : May m) : ∀ x ∈ ns m, 0 ≤ x ∧ x ≤ 1099511627776 := by
  obtain ⟨h0, h1, h2, _, h3, h4, h5, h6, h7, h8, h9, h10, h11, _⟩ := h
  intro x hx
  simp only [ns, List.mem_cons, List.not_mem_nil, or_false] at hx
  rcases hx with rfl | rfl | rfl | rfl | rfl | rfl | rfl | rfl | rfl | rfl | rfl | rfl | rfl
  all_goals first | omega | (unfold bit; split <;> omega)
theorem ns_fit {m : Msg} (h : May m) : ∀ x ∈ ns m, -9223372036854775808 ≤ x ∧ x ≤ 9223372036854775807 := fun x hx => by have := ns_may h x hx; omega

/-- The bytes ahead of the seal; all the bytes, none where it may not be. -/
def body (m : Msg) : List Int := PEnt.encN (ns m) ++ PEnt.enc m.es
def enc (m : Msg) : List Int := if may m = true then PCrc.sealed (body m) else []
theorem enc_yes {m : Msg} (h : may m = true) : enc m = PCrc.sealed (body m) := if_pos h
theorem enc_no {m : Msg} (h : may m = false) : enc m = [] := if_neg (by rw [h]; decide)
theorem body_byte (m : Msg) : isB (body m) := (PEnt.encN_byte _).append (PEnt.enc_byte _)
theorem enc_byte (m : Msg) : isB (enc m) := by
  unfold enc; split
  · exact isB_sealed (body_byte m)
  · intro x hx; simp at hx
theorem body_len {m : Msg} (h : May m) : (body m).length ≤ 5290 := by
  have h1 := PEnt.encN_len (ns m) (ns_fit h)
  have h2 := PEnt.enc_len m.es h.2.2.2.2.2.2.2.2.2.2.2.2.2
  have h3 := h.2.2.2.2.2.2.2.2.2.2.2.2.1
  rw [ns_length] at h1
  unfold body; rw [List.length_append]; omega
theorem enc_len (m : Msg) : (enc m).length ≤ 5294 := by
  unfold enc; split
  · next h => have := body_len ((may_iff m).1 h); rw [sealed_length]; omega
  · simp
theorem enc_pos {m : Msg} (h : may m = true) : 0 < (enc m).length := by rw [enc_yes h, sealed_length]; omega
theorem enc_zero (m : Msg) : (enc m).length = 0 ↔ may m = false := by
  cases h : may m
  · simp [enc_no h]
  · have := enc_pos h
    constructor
    · intro h'; omega
    · intro h'; cases h'

/-- What stands in opened bytes. -/
def rd (l : List Int) : Option Msg :=
  match PEnt.rdN 13 l with
  | some (x, p) =>
    match PEnt.dec (l.drop p) with
    | some es => if may (ofN x es) = true ∧ ns (ofN x es) = x then some (ofN x es) else none
    | none => none
  | none => none
/-- What is read of bytes. -/
def dec (l : List Int) : Option Msg := if (openP l).2 = true then rd (openP l).1 else none
theorem dec_shut {l : List Int} (h : openP l = ([], false)) : dec l = none := by unfold dec; rw [h]; rfl
theorem dec_enc {m : Msg} (h : may m = true) : dec (enc m) = some m := by
  rw [enc_yes h]
  unfold dec
  rw [openP_sealed (body_byte m), if_pos rfl]
  have hm := (may_iff m).1 h
  have h1 := PEnt.rdN_enc (ns m) (PEnt.enc m.es) (ns_fit hm)
  rw [ns_length] at h1
  unfold rd
  show (match PEnt.rdN 13 (body m) with
  | some (x, p) =>
    match PEnt.dec ((body m).drop p) with
    | some es => if may (ofN x es) = true ∧ ns (ofN x es) = x then some (ofN x es) else none
    | none => none
  | none => none) = some m
  have hb : body m = PEnt.encN (ns m) ++ PEnt.enc m.es := rfl
  rw [hb, h1]
  simp only [List.drop_left, PEnt.dec_enc hm.2.2.2.2.2.2.2.2.2.2.2.2.2, ofN_ns, h, and_self, if_true]
theorem openP_yes {l : List Int} (hb : isB l) (h : (openP l).2 = true) : PCrc.sealed (openP l).1 = l ∧ isB (openP l).1 := by
  rw [openP_by_seal hb] at h ⊢
  by_cases h4 : 4 ≤ l.length ∧ PCrc.sealed (l.take (l.length - 4)) = l
  · rw [if_pos h4]; exact ⟨h4.2, hb.take _⟩
  · rw [if_neg h4] at h; cases h
theorem rd_inv {l : List Int} {m : Msg} (hb : isB l) (h : rd l = some m) : may m = true ∧ body m = l := by
  unfold rd at h
  cases hr : PEnt.rdN 13 l with
  | none => rw [hr] at h; simp at h
  | some q =>
    obtain ⟨x, p⟩ := q
    rw [hr] at h
    simp only at h
    obtain ⟨_, i2, i3, _⟩ := PEnt.rdN_inv 13 l x p hb hr
    cases hd : PEnt.dec (l.drop p) with
    | none => rw [hd] at h; simp at h
    | some es =>
      rw [hd] at h
      simp only at h
      obtain ⟨_, j2, _⟩ := PEnt.dec_inv (hb.drop p) hd
      by_cases hm : may (ofN x es) = true ∧ ns (ofN x es) = x
      · rw [if_pos hm] at h
        obtain rfl := Option.some.inj h
        refine ⟨hm.1, ?_⟩
        unfold body
        rw [hm.2, ← i3]
        show _ ++ PEnt.enc es = _
        rw [j2, List.take_append_drop]
      · rw [if_neg hm] at h; cases h
theorem dec_inv {l : List Int} {m : Msg} (hb : isB l) (h : dec l = some m) : may m = true ∧ enc m = l := by
  unfold dec at h
  cases ho : (openP l).2 with
  | false => rw [ho] at h; simp at h
  | true =>
    rw [ho, if_pos rfl] at h
    obtain ⟨h1, h2⟩ := openP_yes hb ho
    obtain ⟨h3, h4⟩ := rd_inv h2 h
    exact ⟨h3, by rw [enc_yes h3, h4, h1]⟩
theorem enc_inj {a b : Msg} (ha : may a = true) (hb : may b = true) (h : enc a = enc b) : a = b := by
  have h1 := dec_enc ha
  rw [h, dec_enc hb] at h1
  exact (Option.some.inj h1).symm
/-- One byte that was changed. -/
theorem dec_each {m : Msg} {x : Int} {i : Nat} (h : may m = true) (hx : 0 ≤ x ∧ x < 256) (hi : i < (enc m).length) (h0 : x ≠ 0) : dec (PCrc.lay (enc m) [x] i) = none := by
  rw [enc_yes h, sealed_length] at hi
  rw [enc_yes h]
  exact dec_shut (openP_each (body_byte m) hx hi h0)

end PMsg
end Go.Proofs.YtgcpofiecbpfbaaDoor

/- Messages as cells, by value; what is known of one that came in. No program is named here. -/
namespace Go.Proofs.YtgcpofiecbpfbaaDoor
open Go.RowKit Go.ChangeShapes Go.WideShapes

/-- A message's cells, its entries at A; a message by value; its numbers by value. -/
def mcs (m : Msg) (A : Option Addr) (c : Nat) : List Value := [.int .i64 m.kind, .int .i64 m.fr, .int .i64 m.dst, .int .i64 m.boot, .int .i64 m.view, .int .i64 m.last, .int .i64 m.mem, .int .i64 m.pos, .slice A m.es.length c, .int .i64 m.com, .int .i64 m.num, .int .i64 m.clk, .bool m.yes]
def mv (m : Msg) (A : Option Addr) (c : Nat) : Value := .agg #[.int .i64 m.kind, .int .i64 m.fr, .int .i64 m.dst, .int .i64 m.boot, .int .i64 m.view, .int .i64 m.last, .int .i64 m.mem, .int .i64 m.pos, .slice A m.es.length c, .int .i64 m.com, .int .i64 m.num, .int .i64 m.clk, .bool m.yes]
theorem mv_mcs (m : Msg) (A : Option Addr) (c : Nat) : mv m A c = .agg (mcs m A c).toArray := rfl
def zeroM : Msg := ⟨0, 0, 0, 0, 0, 0, 0, 0, [], 0, 0, 0, false⟩
/-- Thirteen numbers by value; a message's. -/
def nv13 (x : List Int) : Value := .agg (x.map (Value.int .i64)).toArray

/-- What is known of a message that came in. -/
structure MsgOk (m : Msg) : Prop where
  f0 : -9223372036854775808 ≤ m.kind ∧ m.kind ≤ 9223372036854775807
  f1 : -9223372036854775808 ≤ m.fr ∧ m.fr ≤ 9223372036854775807
  f2 : -9223372036854775808 ≤ m.dst ∧ m.dst ≤ 9223372036854775807
  f3 : -9223372036854775808 ≤ m.boot ∧ m.boot ≤ 9223372036854775807
  f4 : -9223372036854775808 ≤ m.view ∧ m.view ≤ 9223372036854775807
  f5 : -9223372036854775808 ≤ m.last ∧ m.last ≤ 9223372036854775807
  f6 : -9223372036854775808 ≤ m.mem ∧ m.mem ≤ 9223372036854775807
  f7 : -9223372036854775808 ≤ m.pos ∧ m.pos ≤ 9223372036854775807
  f9 : -9223372036854775808 ≤ m.com ∧ m.com ≤ 9223372036854775807
  f10 : -9223372036854775808 ≤ m.num ∧ m.num ≤ 9223372036854775807
  f11 : -9223372036854775808 ≤ m.clk ∧ m.clk ≤ 9223372036854775807
  ents : ∀ e ∈ m.es, EntOk e

section
variable {w w' : World} {g : Nat} {t : TypeId} {m : Msg} {A : Option Addr} {c : Nat}
/-- The cells of a block that holds a message. -/
theorem Blk.msg (h : Blk w g t (mcs m A c)) :
    w.cell? ⟨g, 0, none⟩ = some (.int .i64 m.kind) ∧ w.cell? ⟨g, 1, none⟩ = some (.int .i64 m.fr) ∧ w.cell? ⟨g, 2, none⟩ = some (.int .i64 m.dst) ∧ w.cell? ⟨g, 3, none⟩ = some (.int .i64 m.boot) ∧ w.cell? ⟨g, 4, none⟩ = some (.int .i64 m.view) ∧
    w.cell? ⟨g, 5, none⟩ = some (.int .i64 m.last) ∧ w.cell? ⟨g, 6, none⟩ = some (.int .i64 m.mem) ∧ w.cell? ⟨g, 7, none⟩ = some (.int .i64 m.pos) ∧ w.cell? ⟨g, 8, none⟩ = some (.slice A m.es.length c) ∧ w.cell? ⟨g, 9, none⟩ = some (.int .i64 m.com) ∧
    w.cell? ⟨g, 10, none⟩ = some (.int .i64 m.num) ∧ w.cell? ⟨g, 11, none⟩ = some (.int .i64 m.clk) ∧ w.cell? ⟨g, 12, none⟩ = some (.bool m.yes) :=
  ⟨h.cell (i := 0) rfl, h.cell (i := 1) rfl, h.cell (i := 2) rfl, h.cell (i := 3) rfl, h.cell (i := 4) rfl, h.cell (i := 5) rfl, h.cell (i := 6) rfl, h.cell (i := 7) rfl, h.cell (i := 8) rfl, h.cell (i := 9) rfl, h.cell (i := 10) rfl, h.cell (i := 11) rfl, h.cell (i := 12) rfl⟩
end

/-- What is known of the cell of field j. -/
def FM (w : World) (j : Nat) (u : Value) : Prop := (j ≠ 8 → j ≠ 12 → ∃ x, u = .int .i64 x ∧ (Lit.int .i64 x).wf = true) ∧ (j = 8 → ∃ (A : Option Addr) (n c : Nat) (l : List Ent), u = .slice A n c ∧ Rd w w.heap.size A c 7 n (els l) ∧ ∀ e ∈ l, EntOk e) ∧ (j = 12 → ∃ b, u = .bool b)
theorem msg_of {w : World} {cs : List Value} (hl : cs.length = 13) (h : ∀ (j : Nat) (u : Value), cs[j]? = some u → FM w j u) : ∃ (m : Msg) (A : Option Addr) (c : Nat), cs = mcs m A c ∧ Rd w w.heap.size A c 7 m.es.length (els m.es) ∧ MsgOk m := by
  match cs, hl with
  | [a0, a1, a2, a3, a4, a5, a6, a7, a8, a9, a10, a11, a12], _ =>
    obtain ⟨x0, rfl, w0⟩ := (h 0 a0 rfl).1 (by omega) (by omega)
    obtain ⟨x1, rfl, w1⟩ := (h 1 a1 rfl).1 (by omega) (by omega)
    obtain ⟨x2, rfl, w2⟩ := (h 2 a2 rfl).1 (by omega) (by omega)
    obtain ⟨x3, rfl, w3⟩ := (h 3 a3 rfl).1 (by omega) (by omega)
    obtain ⟨x4, rfl, w4⟩ := (h 4 a4 rfl).1 (by omega) (by omega)
    obtain ⟨x5, rfl, w5⟩ := (h 5 a5 rfl).1 (by omega) (by omega)
    obtain ⟨x6, rfl, w6⟩ := (h 6 a6 rfl).1 (by omega) (by omega)
    obtain ⟨x7, rfl, w7⟩ := (h 7 a7 rfl).1 (by omega) (by omega)
    obtain ⟨A, n, c, l, rfl, hr, ho⟩ := (h 8 a8 rfl).2.1 rfl
    obtain ⟨x9, rfl, w9⟩ := (h 9 a9 rfl).1 (by omega) (by omega)
    obtain ⟨x10, rfl, w10⟩ := (h 10 a10 rfl).1 (by omega) (by omega)
    obtain ⟨x11, rfl, w11⟩ := (h 11 a11 rfl).1 (by omega) (by omega)
    obtain ⟨b, rfl⟩ := (h 12 a12 rfl).2.2 rfl
    have hn := hr.elen
    subst hn
    exact ⟨⟨x0, x1, x2, x3, x4, x5, x6, x7, l, x9, x10, x11, b⟩, A, c, rfl, hr, ⟨bounds_i64 w0, bounds_i64 w1, bounds_i64 w2, bounds_i64 w3, bounds_i64 w4, bounds_i64 w5, bounds_i64 w6, bounds_i64 w7, bounds_i64 w9, bounds_i64 w10, bounds_i64 w11, ho⟩⟩

section
variable {H : Type} {enc : TypeId × Value → H} {P : Program} {w : World} {base : Nat} {spare : Nat → Bool} {held : Bool}
/-- How a message's fields lie. -/
def MsgT (P : Program) (fs : Array Field) (E : TypeId) : Prop := fs.size = 13 ∧ ∀ (j : Nat) (f : Field), fs[j]? = some f → P.cellsOf f.type = 1 ∧ f.offset = j ∧ (j ≠ 8 → j ≠ 12 → P.underlying f.type = some (.int .i64)) ∧ (j = 8 → P.underlying f.type = some (.slice E)) ∧ (j = 12 → P.underlying f.type = some .bool)
/-- A message by value that came in. -/
theorem open_msg {r : Reach} {b0 : Nat} {t E : TypeId} {fs es : Array Field} {v : Value} {d : DataW H} {ps : List MemPlace} (ht : P.underlying t = some (.struct fs)) (hC : P.cellsOf t = 13) (hT : MsgT P fs E)
    (hE : P.underlying E = some (.struct es)) (hEC : P.cellsOf E = 7) (hET : EntT P es)
    (hval : Value.okWide P w r b0 t v) (hd : DataW.Trod enc P w base spare held t v d ps) : ∃ (m : Msg) (A : Option Addr) (c : Nat), v = mv m A c ∧ Rd w w.heap.size A c 7 m.es.length (els m.es) ∧ MsgOk m := by
  obtain ⟨cs, rfl, hsz⟩ := okWide_struct ht hval
  obtain ⟨fuel, hf⟩ := hd
  obtain ⟨xs, n, rfl, hx, hl, hxl, hfs⟩ := DataW.trod_struct ht hf
  have hl13 : cs.toList.length = 13 := by rw [hC] at hl; exact hl
  obtain ⟨m, A, c, hc, hr, ho⟩ := msg_of (w := w) hl13 (fun j u hu => by
    have hj := (List.getElem?_eq_some_iff.1 hu).1
    have hjf : j < fs.size := by rw [hT.1]; omega
    have hfj := Array.getElem?_eq_getElem hjf
    have hy := hfs j fs[j] hfj
    rw [List.getElem?_eq_getElem (show j < xs.length by omega)] at hy
    obtain ⟨h1, h2, h3, h4, h5⟩ := hT.2 j fs[j] hfj
    have key : ∀ v, (cs.toList.drop fs[j].offset).take (P.cellsOf fs[j].type) = [v] → u = v := by
      intro v hv
      rw [h1, h2] at hv
      have h3 := congrArg (fun q => q[0]?) hv
      simp only [List.getElem?_take, List.getElem?_drop] at h3
      simp only [Nat.lt_succ_self, if_true, Nat.add_zero, List.getElem?_cons_zero] at h3
      exact Option.some.inj (hu.symm.trans h3)
    by_cases e8 : j = 8
    · obtain ⟨A, n, c, l, hcs, hr, ho⟩ := open_ents (h4 e8) hE hEC hET hy
      have := key _ hcs
      exact ⟨fun h => absurd e8 h, fun _ => ⟨A, n, c, l, this, hr, ho⟩, fun h => by omega⟩
    · by_cases e12 : j = 12
      · obtain ⟨b, hcs, _⟩ := DataW.trod_bool (h5 e12) hy
        have := key _ hcs
        exact ⟨fun _ h => absurd e12 h, fun h => absurd h e8, fun _ => ⟨b, this⟩⟩
      · obtain ⟨x, hcs, _, hw⟩ := DataW.trod_int (h3 e8 e12) hy
        have := key _ hcs
        exact ⟨fun _ _ => ⟨x, this, hw⟩, fun h => absurd h e8, fun h => absurd h e12⟩)
  exact ⟨m, A, c, by rw [mv_mcs, ← hc], hr, ho⟩
end
end Go.Proofs.YtgcpofiecbpfbaaDoor

/- A message loaded, rows of int64s compared, in a region that draws. -/
namespace Go.Proofs.YtgcpofiecbpfbaaDoor
open Go.RowKit

/-- A message is loaded, in a region that draws. -/
theorem run_loadM {w : World} {dst : Option Tmp} {x : Operand} {ty : TypeId} {pos : String} {after : Array Edge} {guard : Option (Nat × Bool)} {ρ : Operand → Value} {g : Nat} {t : TypeId} {m : Msg} {A : Option Addr} {c : Nat}
    (K : Blk w g t (mcs m A c)) (hx : ρ x = .pointer (some ⟨g, 0, none⟩)) :
    (execOp ρ { dst, op := .load 24 x, type := ty, pos, after, guard }).run Tryd.prog w = .ok (.value (mv m A c)) w := by
  have := run_loadAt_mid (P := Tryd.prog) w g 0 24 (mcs m A c) _ K.range Tryd.underlying24 rfl (by kernel_rfl)
  unfold execOp
  simp only [hx, Sem.run_bind, this, Result.andThen_ok, Sem.run_pure]
  rfl

section
variable {P : Program} (w : World)
theorem range_eq : ∀ (xs ys : List Int), xs.length = ys.length → ((List.range xs.length).all fun i => xs.getD i 0 == ys.getD i 0) = decide (xs = ys)
  | [], [], _ => rfl
  | [], _ :: _, h => by simp at h
  | _ :: _, [], h => by simp at h
  | x :: xs, y :: ys, h => by
    have h1 := range_eq xs ys (by simpa using h)
    rw [List.length_cons, List.range_succ_eq_map, List.all_cons, List.all_map]
    simp only [List.getD_cons_zero, Function.comp_def, List.getD_cons_succ, h1]
    rw [Bool.eq_iff_iff]; simp
/-- Two arrays of int64s are the same, number by number. -/
theorem run_equalIn_nums (d : Nat) (t e : TypeId) (n : Nat) (ht : P.underlying t = some (.array n e)) (he : P.underlying e = some (.int .i64)) (hs : ∀ w, (sizeOf e).run P w = .ok 1 w) (xs ys : List Int) (hx : xs.length = n) (hy : ys.length = n) :
    (Op.equalIn (d + 2) t (nv13 xs) (nv13 ys)).run P w = .ok (decide (xs = ys)) w := by
  rw [← range_eq xs ys (hx.trans hy.symm), hx, List.range_eq_range', nv13, nv13, Op.equalIn]
  simp only [Sem.run_bind, run_underlying ht, Result.andThen_ok, hs, Std.Legacy.Range.forIn_eq_forIn_range', Std.Legacy.Range.size, Nat.sub_zero, Nat.add_sub_cancel, Nat.div_one]
  have hl : ∀ i ∈ List.range' 0 n 1, i < n := fun i hi => by simpa using (List.mem_range'_1.1 hi).2
  generalize List.range' 0 n 1 = l at hl ⊢
  induction l with
  | nil => simp
  | cons i l ih =>
    have hi : i < n := hl i (by simp)
    have px : (part e (xs.map (Value.int .i64)).toArray (i * 1)).run P w = .ok (.int .i64 (xs.getD i 0)) w := by
      simp [part, isAgg, run_underlying he, List.getD, List.getElem?_eq_getElem (show i < xs.length by omega)]
    have py : (part e (ys.map (Value.int .i64)).toArray (i * 1)).run P w = .ok (.int .i64 (ys.getD i 0)) w := by
      simp [part, isAgg, run_underlying he, List.getD, List.getElem?_eq_getElem (show i < ys.length by omega)]
    simp only [List.forIn_cons, Sem.run_bind, px, py, run_equalIn_int w d e .i64 .i64 _ _ he, Result.andThen_ok, List.all_cons]
    cases hb : (xs.getD i 0 == ys.getD i 0)
    · simp
    · simp only [Bool.not_true, Bool.false_eq_true, if_false, Sem.run_pure, Result.andThen_ok, Bool.true_and]
      exact ih fun j hj => hl j (by simp [hj])
end

theorem run_loadN {w : World} {dst : Option Tmp} {x : Operand} {ty : TypeId} {pos : String} {after : Array Edge} {guard : Option (Nat × Bool)} {ρ : Operand → Value} {g : Nat} {t : TypeId} {y0 y1 y2 y3 y4 y5 y6 y7 y8 y9 y10 y11 y12 : Int}
    (K : Blk w g t [.int .i64 y0, .int .i64 y1, .int .i64 y2, .int .i64 y3, .int .i64 y4, .int .i64 y5, .int .i64 y6, .int .i64 y7, .int .i64 y8, .int .i64 y9, .int .i64 y10, .int .i64 y11, .int .i64 y12]) (hx : ρ x = .pointer (some ⟨g, 0, none⟩)) :
    (execOp ρ { dst, op := .load 50 x, type := ty, pos, after, guard }).run Tryd.prog w = .ok (.value (nv13 [y0, y1, y2, y3, y4, y5, y6, y7, y8, y9, y10, y11, y12])) w := by
  have := run_loadAt_mid (P := Tryd.prog) w g 0 50 [.int .i64 y0, .int .i64 y1, .int .i64 y2, .int .i64 y3, .int .i64 y4, .int .i64 y5, .int .i64 y6, .int .i64 y7, .int .i64 y8, .int .i64 y9, .int .i64 y10, .int .i64 y11, .int .i64 y12] _ K.range Tryd.underlying50 rfl (by kernel_rfl)
  unfold execOp
  simp only [hx, Sem.run_bind, this, Result.andThen_ok, Sem.run_pure]
  rfl

theorem run_numsEq {w : World} {dst : Option Tmp} {x y : Operand} {ty : TypeId} {pos : String} {after : Array Edge} {guard : Option (Nat × Bool)} {ρ : Operand → Value} {xs ys : List Int} {b : Bool} (hx : ρ x = nv13 xs) (hy : ρ y = nv13 ys) (lx : xs.length = 13) (ly : ys.length = 13) (hb : decide (xs = ys) = b) :
    (execOp ρ { dst, op := .binOp .eql 50 x y 50, type := ty, pos, after, guard }).run Tryd.prog w = .ok (.value (.bool b)) w := by
  have h1 := run_equalIn_nums (P := Tryd.prog) w 9998 50 2 13 Tryd.underlying50 Tryd.underlying2 (fun w => by kernel_rfl) xs ys lx ly
  have h0 : Tryd.prog.eqGuardType Tryd.prog.depth 50 = false := by kernel_rfl
  unfold execOp
  simp only [hx, hy]
  unfold nv13 at *
  simp only [Sem.run_bind, run_eqGuard_agg (P := Tryd.prog) w .eql 50 x y _ _ h0, Result.andThen_ok, run_eql_struct, h1, hb, Sem.run_pure]
theorem run_numsNe {w : World} {dst : Option Tmp} {x y : Operand} {ty : TypeId} {pos : String} {after : Array Edge} {guard : Option (Nat × Bool)} {ρ : Operand → Value} {xs ys : List Int} {b : Bool} (hx : ρ x = nv13 xs) (hy : ρ y = nv13 ys) (lx : xs.length = 13) (ly : ys.length = 13) (hb : (!decide (xs = ys)) = b) :
    (execOp ρ { dst, op := .binOp .neq 50 x y 50, type := ty, pos, after, guard }).run Tryd.prog w = .ok (.value (.bool b)) w := by
  have h1 := run_equalIn_nums (P := Tryd.prog) w 9998 50 2 13 Tryd.underlying50 Tryd.underlying2 (fun w => by kernel_rfl) xs ys lx ly
  have h0 : Tryd.prog.eqGuardType Tryd.prog.depth 50 = false := by kernel_rfl
  unfold execOp
  simp only [hx, hy]
  unfold nv13 at *
  simp only [Sem.run_bind, run_eqGuard_agg (P := Tryd.prog) w .neq 50 x y _ _ h0, Result.andThen_ok, run_neq_struct, h1, hb, Sem.run_pure]
end Go.Proofs.YtgcpofiecbpfbaaDoor

/- Contracts of entries: isIn, May, Same, Eq, of the program and of the document. -/
namespace Go.Proofs.YtgcpofiecbpfbaaDoor
open Go.RowKit

theorem isIn_c (w : World) (n lo hi : Int) :
    Calls Tryd.prog 57 #[.int .i64 n, .int .i64 lo, .int .i64 hi] w fun e w' => e = .returned (.bool (decide (lo ≤ n ∧ n ≤ hi))) ∧ w = w' := by
  obtain ⟨r, HR⟩ : ∃ r, decide (lo ≤ n ∧ n ≤ hi) = r := ⟨_, rfl⟩
  rw [HR]
  by_cases h1 : lo ≤ n
  · by_cases h2 : n ≤ hi
    · have H := Lib.hid (HR.symm.trans (decide_eq_true (And.intro h1 h2)))
      clear HR
      go_enter Tryd.func57, Tryd.ntmps57
      go_wp2
      go_ret
      exact ⟨by rw [H.out]; rfl, rfl⟩
    · have H := Lib.hid (HR.symm.trans (decide_eq_false (fun h : lo ≤ n ∧ n ≤ hi => h2 h.2)))
      clear HR
      go_enter Tryd.func57, Tryd.ntmps57
      go_wp2
      go_ret
      exact ⟨by rw [H.out]; rfl, rfl⟩
  · have H := Lib.hid (HR.symm.trans (decide_eq_false (fun h : lo ≤ n ∧ n ≤ hi => h1 h.1)))
    clear HR
    go_enter Tryd.func57, Tryd.ntmps57
    go_wp2
    go_ret
    exact ⟨by rw [H.out]; rfl, rfl⟩

set_option maxRecDepth 100000 in
theorem May_c (w : World) (e : Ent) : Calls Tryd.prog 43 #[ev e] w fun x w' => x = .returned (.bool (PEnt.may e)) ∧ Below w.heap.size w w' := by
  obtain ⟨fr, boot, seq, ord, lev, stamp, data⟩ := e
  by_cases h0 : ¬ (1 ≤ fr ∧ fr ≤ 7)
  · have HM := Lib.hid (show PEnt.may ⟨fr, boot, seq, ord, lev, stamp, data⟩ = false from decide_eq_false (fun h => h0 h.1))
    have D0 := Lib.hid (decide_eq_false h0)
    clear h0
    show Calls _ _ #[.agg #[.int .i64 fr, .int .i64 boot, .int .i64 seq, .int .i64 ord, .int .i64 lev, .int .i64 stamp, .string data]] _ _
    go_enter Tryd.func43, Tryd.ntmps43
    go_wp2_with fail
    refine (isIn_c _ fr 1 7).mono ?_
    rw [D0.out]
    rintro e w1 ⟨rfl, rfl⟩
    go_wp2_with fail
    go_ret
    exact ⟨by rw [HM.out]; rfl, (Below.refl _ _).alloc (Nat.le_refl _) _⟩
  replace h0 := Decidable.of_not_not h0
  by_cases h1 : ¬ (1 ≤ boot ∧ boot ≤ 1099511627776)
  · have HM := Lib.hid (show PEnt.may ⟨fr, boot, seq, ord, lev, stamp, data⟩ = false from decide_eq_false (fun h => h1 h.2.1))
    have D0 := Lib.hid (decide_eq_true h0)
    have D1 := Lib.hid (decide_eq_false h1)
    clear h0 h1
    show Calls _ _ #[.agg #[.int .i64 fr, .int .i64 boot, .int .i64 seq, .int .i64 ord, .int .i64 lev, .int .i64 stamp, .string data]] _ _
    go_enter Tryd.func43, Tryd.ntmps43
    go_wp2_with fail
    refine (isIn_c _ fr 1 7).mono ?_
    rw [D0.out]
    rintro e w1 ⟨rfl, rfl⟩
    go_wp2_with fail
    refine (isIn_c _ boot 1 1099511627776).mono ?_
    rw [D1.out]
    rintro e w1 ⟨rfl, rfl⟩
    go_wp2_with fail
    go_ret
    exact ⟨by rw [HM.out]; rfl, (Below.refl _ _).alloc (Nat.le_refl _) _⟩
  replace h1 := Decidable.of_not_not h1
  by_cases h2 : ¬ (1 ≤ seq ∧ seq ≤ 1099511627776)
  · have HM := Lib.hid (show PEnt.may ⟨fr, boot, seq, ord, lev, stamp, data⟩ = false from decide_eq_false (fun h => h2 h.2.2.1))
    have D0 := Lib.hid (decide_eq_true h0)
    have D1 := Lib.hid (decide_eq_true h1)
    have D2 := Lib.hid (decide_eq_false h2)
    clear h0 h1 h2
    show Calls _ _ #[.agg #[.int .i64 fr, .int .i64 boot, .int .i64 seq, .int .i64 ord, .int .i64 lev, .int .i64 stamp, .string data]] _ _
    go_enter Tryd.func43, Tryd.ntmps43
    go_wp2_with fail
    refine (isIn_c _ fr 1 7).mono ?_
    rw [D0.out]
    rintro e w1 ⟨rfl, rfl⟩
    go_wp2_with fail
    refine (isIn_c _ boot 1 1099511627776).mono ?_
    rw [D1.out]
    rintro e w1 ⟨rfl, rfl⟩
    go_wp2_with fail
    refine (isIn_c _ seq 1 1099511627776).mono ?_
    rw [D2.out]
    rintro e w1 ⟨rfl, rfl⟩
    go_wp2_with fail
    go_ret
    exact ⟨by rw [HM.out]; rfl, (Below.refl _ _).alloc (Nat.le_refl _) _⟩
  replace h2 := Decidable.of_not_not h2
  by_cases h3 : ¬ (0 ≤ ord ∧ ord ≤ 2)
  · have HM := Lib.hid (show PEnt.may ⟨fr, boot, seq, ord, lev, stamp, data⟩ = false from decide_eq_false (fun h => h3 h.2.2.2.1))
    have D0 := Lib.hid (decide_eq_true h0)
    have D1 := Lib.hid (decide_eq_true h1)
    have D2 := Lib.hid (decide_eq_true h2)
    have D3 := Lib.hid (decide_eq_false h3)
    clear h0 h1 h2 h3
    show Calls _ _ #[.agg #[.int .i64 fr, .int .i64 boot, .int .i64 seq, .int .i64 ord, .int .i64 lev, .int .i64 stamp, .string data]] _ _
    go_enter Tryd.func43, Tryd.ntmps43
    go_wp2_with fail
    refine (isIn_c _ fr 1 7).mono ?_
    rw [D0.out]
    rintro e w1 ⟨rfl, rfl⟩
    go_wp2_with fail
    refine (isIn_c _ boot 1 1099511627776).mono ?_
    rw [D1.out]
    rintro e w1 ⟨rfl, rfl⟩
    go_wp2_with fail
    refine (isIn_c _ seq 1 1099511627776).mono ?_
    rw [D2.out]
    rintro e w1 ⟨rfl, rfl⟩
    go_wp2_with fail
    refine (isIn_c _ ord 0 2).mono ?_
    rw [D3.out]
    rintro e w1 ⟨rfl, rfl⟩
    go_wp2_with fail
    go_ret
    exact ⟨by rw [HM.out]; rfl, (Below.refl _ _).alloc (Nat.le_refl _) _⟩
  replace h3 := Decidable.of_not_not h3
  by_cases h4 : ¬ (0 ≤ lev ∧ lev ≤ 2)
  · have HM := Lib.hid (show PEnt.may ⟨fr, boot, seq, ord, lev, stamp, data⟩ = false from decide_eq_false (fun h => h4 h.2.2.2.2.1))
    have D0 := Lib.hid (decide_eq_true h0)
    have D1 := Lib.hid (decide_eq_true h1)
    have D2 := Lib.hid (decide_eq_true h2)
    have D3 := Lib.hid (decide_eq_true h3)
    have D4 := Lib.hid (decide_eq_false h4)
    clear h0 h1 h2 h3 h4
    show Calls _ _ #[.agg #[.int .i64 fr, .int .i64 boot, .int .i64 seq, .int .i64 ord, .int .i64 lev, .int .i64 stamp, .string data]] _ _
    go_enter Tryd.func43, Tryd.ntmps43
    go_wp2_with fail
    refine (isIn_c _ fr 1 7).mono ?_
    rw [D0.out]
    rintro e w1 ⟨rfl, rfl⟩
    go_wp2_with fail
    refine (isIn_c _ boot 1 1099511627776).mono ?_
    rw [D1.out]
    rintro e w1 ⟨rfl, rfl⟩
    go_wp2_with fail
    refine (isIn_c _ seq 1 1099511627776).mono ?_
    rw [D2.out]
    rintro e w1 ⟨rfl, rfl⟩
    go_wp2_with fail
    refine (isIn_c _ ord 0 2).mono ?_
    rw [D3.out]
    rintro e w1 ⟨rfl, rfl⟩
    go_wp2_with fail
    refine (isIn_c _ lev 0 2).mono ?_
    rw [D4.out]
    rintro e w1 ⟨rfl, rfl⟩
    go_wp2_with fail
    go_ret
    exact ⟨by rw [HM.out]; rfl, (Below.refl _ _).alloc (Nat.le_refl _) _⟩
  replace h4 := Decidable.of_not_not h4
  by_cases h5 : ¬ (0 ≤ stamp ∧ stamp ≤ 1099511627776)
  · have HM := Lib.hid (show PEnt.may ⟨fr, boot, seq, ord, lev, stamp, data⟩ = false from decide_eq_false (fun h => h5 h.2.2.2.2.2.1))
    have D0 := Lib.hid (decide_eq_true h0)
    have D1 := Lib.hid (decide_eq_true h1)
    have D2 := Lib.hid (decide_eq_true h2)
    have D3 := Lib.hid (decide_eq_true h3)
    have D4 := Lib.hid (decide_eq_true h4)
    have D5 := Lib.hid (decide_eq_false h5)
    clear h0 h1 h2 h3 h4 h5
    show Calls _ _ #[.agg #[.int .i64 fr, .int .i64 boot, .int .i64 seq, .int .i64 ord, .int .i64 lev, .int .i64 stamp, .string data]] _ _
    go_enter Tryd.func43, Tryd.ntmps43
    go_wp2_with fail
    refine (isIn_c _ fr 1 7).mono ?_
    rw [D0.out]
    rintro e w1 ⟨rfl, rfl⟩
    go_wp2_with fail
    refine (isIn_c _ boot 1 1099511627776).mono ?_
    rw [D1.out]
    rintro e w1 ⟨rfl, rfl⟩
    go_wp2_with fail
    refine (isIn_c _ seq 1 1099511627776).mono ?_
    rw [D2.out]
    rintro e w1 ⟨rfl, rfl⟩
    go_wp2_with fail
    refine (isIn_c _ ord 0 2).mono ?_
    rw [D3.out]
    rintro e w1 ⟨rfl, rfl⟩
    go_wp2_with fail
    refine (isIn_c _ lev 0 2).mono ?_
    rw [D4.out]
    rintro e w1 ⟨rfl, rfl⟩
    go_wp2_with fail
    refine (isIn_c _ stamp 0 1099511627776).mono ?_
    rw [D5.out]
    rintro e w1 ⟨rfl, rfl⟩
    go_wp2_with fail
    go_ret
    exact ⟨by rw [HM.out]; rfl, (Below.refl _ _).alloc (Nat.le_refl _) _⟩
  replace h5 := Decidable.of_not_not h5
  by_cases h6 : ¬ (data.size ≤ 16)
  · have HM := Lib.hid (show PEnt.may ⟨fr, boot, seq, ord, lev, stamp, data⟩ = false from decide_eq_false (fun h => h6 h.2.2.2.2.2.2))
    have D0 := Lib.hid (decide_eq_true h0)
    have D1 := Lib.hid (decide_eq_true h1)
    have D2 := Lib.hid (decide_eq_true h2)
    have D3 := Lib.hid (decide_eq_true h3)
    have D4 := Lib.hid (decide_eq_true h4)
    have D5 := Lib.hid (decide_eq_true h5)
    clear h0 h1 h2 h3 h4 h5
    show Calls _ _ #[.agg #[.int .i64 fr, .int .i64 boot, .int .i64 seq, .int .i64 ord, .int .i64 lev, .int .i64 stamp, .string data]] _ _
    go_enter Tryd.func43, Tryd.ntmps43
    go_wp2_with fail
    refine (isIn_c _ fr 1 7).mono ?_
    rw [D0.out]
    rintro e w1 ⟨rfl, rfl⟩
    go_wp2_with fail
    refine (isIn_c _ boot 1 1099511627776).mono ?_
    rw [D1.out]
    rintro e w1 ⟨rfl, rfl⟩
    go_wp2_with fail
    refine (isIn_c _ seq 1 1099511627776).mono ?_
    rw [D2.out]
    rintro e w1 ⟨rfl, rfl⟩
    go_wp2_with fail
    refine (isIn_c _ ord 0 2).mono ?_
    rw [D3.out]
    rintro e w1 ⟨rfl, rfl⟩
    go_wp2_with fail
    refine (isIn_c _ lev 0 2).mono ?_
    rw [D4.out]
    rintro e w1 ⟨rfl, rfl⟩
    go_wp2_with fail
    refine (isIn_c _ stamp 0 1099511627776).mono ?_
    rw [D5.out]
    rintro e w1 ⟨rfl, rfl⟩
    go_wp2_with fail
    go_ret
    exact ⟨by rw [HM.out]; show Ending.returned (.bool (decide ((data.size : Int) ≤ 16))) = _; rw [decide_eq_false (by omega)], (Below.refl _ _).alloc (Nat.le_refl _) _⟩
  replace h6 := Decidable.of_not_not h6
  have HM := Lib.hid (show PEnt.may ⟨fr, boot, seq, ord, lev, stamp, data⟩ = true from decide_eq_true ⟨h0, h1, h2, h3, h4, h5, h6⟩)
  have D0 := Lib.hid (decide_eq_true h0)
  have D1 := Lib.hid (decide_eq_true h1)
  have D2 := Lib.hid (decide_eq_true h2)
  have D3 := Lib.hid (decide_eq_true h3)
  have D4 := Lib.hid (decide_eq_true h4)
  have D5 := Lib.hid (decide_eq_true h5)
  clear h0 h1 h2 h3 h4 h5
  show Calls _ _ #[.agg #[.int .i64 fr, .int .i64 boot, .int .i64 seq, .int .i64 ord, .int .i64 lev, .int .i64 stamp, .string data]] _ _
  go_enter Tryd.func43, Tryd.ntmps43
  go_wp2_with fail
  refine (isIn_c _ fr 1 7).mono ?_
  rw [D0.out]
  rintro e w1 ⟨rfl, rfl⟩
  go_wp2_with fail
  refine (isIn_c _ boot 1 1099511627776).mono ?_
  rw [D1.out]
  rintro e w1 ⟨rfl, rfl⟩
  go_wp2_with fail
  refine (isIn_c _ seq 1 1099511627776).mono ?_
  rw [D2.out]
  rintro e w1 ⟨rfl, rfl⟩
  go_wp2_with fail
  refine (isIn_c _ ord 0 2).mono ?_
  rw [D3.out]
  rintro e w1 ⟨rfl, rfl⟩
  go_wp2_with fail
  refine (isIn_c _ lev 0 2).mono ?_
  rw [D4.out]
  rintro e w1 ⟨rfl, rfl⟩
  go_wp2_with fail
  refine (isIn_c _ stamp 0 1099511627776).mono ?_
  rw [D5.out]
  rintro e w1 ⟨rfl, rfl⟩
  go_wp2_with fail
  go_ret
  exact ⟨by rw [HM.out]; show Ending.returned (.bool (decide ((data.size : Int) ≤ 16))) = _; rw [decide_eq_true (by omega)], (Below.refl _ _).alloc (Nat.le_refl _) _⟩
end Go.Proofs.YtgcpofiecbpfbaaDoor

/- Contracts of the number functions: fold, unfold, withRoom, appendSevens, Put, PutText. -/
namespace Go.Proofs.YtgcpofiecbpfbaaDoor
open Go.RowKit

theorem fold_c (n : Int) (w : World) (h1 : -9223372036854775808 ≤ n) (h2 : n ≤ 9223372036854775807) :
    Calls Tryd.prog 48 #[.int .i64 n] w fun e w' => e = .returned (.int .u64 (PNum.zig n)) ∧ w = w' := by
  have key : bits BinOp.xor IntKind.u64 (IntKind.u64.wrap (IntKind.u64.wrap n * 2)) (IntKind.u64.wrap (n / 9223372036854775808)) = (PNum.zig n : Int) := by
    by_cases hn : 0 ≤ n
    · have e : n / 9223372036854775808 = 0 := by omega
      have e2 : IntKind.u64.wrap (IntKind.u64.wrap n * 2) = ((2 * n).toNat : Int) := by rw [IntKind.wrap_u64, IntKind.wrap_u64]; omega
      rw [e, e2, show IntKind.u64.wrap 0 = ((0 : Nat) : Int) from rfl, bits_xor_u64_nat _ _ (by omega) (by omega), Nat.xor_zero]
      unfold PNum.zig; rw [if_neg (by omega)]
    · have e : n / 9223372036854775808 = -1 := by omega
      have e2 : IntKind.u64.wrap (IntKind.u64.wrap n * 2) = (((2 * n + 18446744073709551616).toNat : Nat) : Int) := by rw [IntKind.wrap_u64, IntKind.wrap_u64]; omega
      have e3 : IntKind.u64.wrap (-1) = ((2 ^ 64 - 1 : Nat) : Int) := by decide
      rw [e, e2, e3, bits_xor_u64_nat _ _ (by omega) (by decide), Nat.xor_comm, Lib.xor_ones64 _ (by omega)]
      unfold PNum.zig; rw [if_pos (by omega)]; omega
  have K := Lib.hid key; clear key
  go_enter Tryd.func48, Tryd.ntmps48
  go_wp2
  go_ret
  exact ⟨congrArg (fun x => Ending.returned (.int .u64 x)) K.out, rfl⟩
theorem withRoom_c (w : World) (B : Nat) (A : Option Addr) (c n : Nat) (l : List Int) (s : Int) (h : Rd w B A c 1 n (bs l)) (hn : n ≤ 1099511627776) (h0 : 0 ≤ s) (h1 : s ≤ 1099511627776) :
    Calls Tryd.prog 47 #[.slice A n c, .int .i64 s] w fun e w' => ∃ A' c', e = .returned (.slice A' n c') ∧
      w'.ownsRow w.heap.size 5 1 (.slice A' n c') n (bs l) ∧ Below w.heap.size w w' := by
  obtain ⟨i0, hi, hz0, hz1, hz2⟩ := info_parts byte_info
  obtain ⟨k, rfl⟩ := Int.eq_ofNat_of_zero_le h0
  have hlen := h.len
  go_enter Tryd.func47, Tryd.ntmps47
  go_wp2_with (at_make; refine wpList_make_own _ rfl _ _ 29 rfl w.heap.size 5 i0 (.int .u8 0) 1 Tryd.underlying29 hi hz0 hz1 _ _ _ (n + k) rfl rfl (by omega) ?b2 ?b3 (Nat.le_refl _) ?_)
  case b2 => rw [hz2]; omega
  case b3 => unfold maxLen; omega
  intro w0 hown0 hgrow0
  have hb0 : Below w.heap.size w w0 := (Below.refl _ _).grown hgrow0 (Nat.le_refl _) (fun k h => by cases h)
  have hr := h.past hb0
  go_wp2_with (at_builtin; refine wpList_app rfl (.tmp 9) (.tmp 10) _ rfl w.heap.size 5 _ 1 1 Tryd.underlying29 byte_info rfl (by omega) _ 0 [] rfl hown0 B A c n (bs l) rfl hr (bs_one l) (by unfold maxLen; omega) (by omega) hb0.size ?_)
  intro A' c' w1 hown1 hgrow1 hbel1
  go_wp2
  go_ret
  exact ⟨A', c', by simp, by simpa using hown1, hb0.trans hbel1⟩

theorem seven_byte (u : Nat) : bits BinOp.or IntKind.u8 ((u : Int) % 256) 128 = ((u % 128 + 128 : Nat) : Int) := by
  rw [u8_or _ _ (by omega) (by omega) (by omega) (by omega)]
  have e : ((u : Int) % 256).toNat = u % 256 := by omega
  rw [e, show (128 : Int).toNat = 128 from rfl]
  have h := Nat.or_comm
  by_cases hb : u % 256 < 128
  · rw [h, nat_join7 128 (u % 256) (by decide) hb]; omega
  · have e2 : u % 256 = 128 + u % 128 := by omega
    have e3 : (128 + u % 128) = (128 ||| u % 128) := (nat_join7 128 (u % 128) (by decide) (by omega)).symm
    rw [e2, e3, h, ← Nat.or_assoc, Nat.or_self, ← e3]; omega

set_option maxRecDepth 100000 in
theorem appendSevens_c (w : World) (base : Nat) (A : Option Addr) (c n : Nat) (l : List Int) (u : Nat) (hown : w.ownsRow base 5 1 (.slice A n c) n (bs l)) (hbase : base ≤ w.heap.size)
    (hn : n ≤ 1099511627776) (hu : u < 18446744073709551616) :
    Calls Tryd.prog 46 #[.slice A n c, .int .u64 u] w fun e w' => ∃ A' c', e = .returned (.slice A' (n + (PNum.sev u).length) c') ∧
      w'.ownsRow base 5 1 (.slice A' (n + (PNum.sev u).length) c') (n + (PNum.sev u).length) (bs (l ++ PNum.sev u)) ∧ Below base w w' := by
  have hten := PNum.sev_ten u hu
  go_enter Tryd.func46, Tryd.ntmps46
  go_wp2
  go_loopw [0, 1] (fun s0 s1 wr => ∃ (A' : Option Addr) (c' n' v : Nat) (m : List Int), s0 = .slice A' n' c' ∧ s1 = .int .u64 v ∧ v < 18446744073709551616 ∧ n' ≤ n + 10 ∧
      wr.ownsRow base 5 1 (.slice A' n' c') n' (bs (l ++ m)) ∧ n' + (PNum.sev v).length = n + (PNum.sev u).length ∧ m ++ PNum.sev v = PNum.sev u ∧ Below base w wr)
    (fun _ s1 _ => (intOf s1).toNat)
  case atStart => exact ⟨A, c, n, u, [], rfl, rfl, hu, by omega, by simpa using hown, rfl, rfl, Below.refl _ _⟩
  case round =>
    obtain ⟨A', c', n', v, m, rfl, rfl, hv, hn', hown', hlen, hm, hbel⟩ := hrel
    have HL := Lib.hid hlen; clear hlen
    have HM := Lib.hid hm; clear hm
    have hsz := hbel.size
    have HV := Lib.hid hv; clear hv
    have HU := Lib.hid hu; clear hu
    have HN := Lib.hid hn; clear hn
    by_cases hlt : 128 ≤ v
    · have hs := PNum.sev_hi hlt
      have HS := Lib.hid hs; clear hs
      have hb := seven_byte v
      have HB := Lib.hid hb; clear hb
      go_wp2_with (at_builtin; go_must (refine wpList_push rfl (.tmp 9) (.tmp 13) _ rfl base 5 _ 1 Tryd.underlying29 byte_info rfl A' c' n' (bs (l ++ m)) rfl hown' rfl rfl ?c2 ?c3 ?c4 ?_))
      case c2 => have := HN.out; unfold maxLen; omega
      case c3 => have := HN.out; omega
      case c4 => omega
      intro A2 c2 w2 hown2 hgrow2 hbel2
      rw [HB.out] at hown2
      go_wp2
      go_roundw
      case rel =>
        have h1 := HL.out; have h2 := HM.out; have h3 := HS.out; have h4 := HV.out
        rw [h3] at h1 h2
        refine ⟨A2, c2, n' + 1, v / 128, m ++ [((v % 128 + 128 : Nat) : Int)], rfl, by go_num, by omega, ?_, ?_, by simp at h1; omega, by simpa using h2, hbel.trans hbel2⟩
        · simp at h1; omega
        · simpa [bs] using hown2
      case measure => simp [intOf]; omega
    · go_wp2_with (at_builtin; go_must (refine wpList_push rfl (.tmp 15) (.tmp 18) _ rfl base 5 _ 1 Tryd.underlying29 byte_info rfl A' c' n' (bs (l ++ m)) rfl hown' rfl rfl ?c2 ?c3 ?c4 ?_))
      case c2 => have := HN.out; unfold maxLen; omega
      case c3 => have := HN.out; omega
      case c4 => omega
      intro A2 c2 w2 hown2 hgrow2 hbel2
      go_wp2
      go_ret
      have h1 := HL.out; have h2 := HM.out
      rw [PNum.sev_lo (by omega)] at h1 h2
      simp at h1
      refine ⟨A2, c2, ?_, ?_, hbel.trans hbel2⟩
      · rw [← h1]; rfl
      · rw [← h1, ← h2]
        have e : ((v : Int) % 256) = v := by omega
        simpa [bs, e] using hown2

end Go.Proofs.YtgcpofiecbpfbaaDoor

/- Contract of PutText. -/
namespace Go.Proofs.YtgcpofiecbpfbaaDoor
open Go.RowKit

theorem PutText_c (w : World) (B : Nat) (A : Option Addr) (c n : Nat) (l : List Int) (s : ByteArray) (h : Rd w B A c 1 n (bs l)) (hn : n ≤ 500000000000) (hs : s.size ≤ 500000000000) :
    Calls Tryd.prog 60 #[.slice A n c, .string s] w fun e w' => ∃ A' c', e = .returned (.slice A' (n + (PNum.sev (PNum.zig s.size)).length + s.size) c') ∧
      w'.ownsRow w.heap.size 5 1 (.slice A' (n + (PNum.sev (PNum.zig s.size)).length + s.size) c') (n + (PNum.sev (PNum.zig s.size)).length + s.size) (bs (l ++ PNum.sev (PNum.zig s.size) ++ sb s)) ∧ Below w.heap.size w w' := by
  have HN := Lib.hid hn; clear hn
  have hz : PNum.zig s.size < 18446744073709551616 := PNum.zig_lt _ (by omega) (by omega)
  have ht := PNum.sev_ten _ hz
  have HT := Lib.hid ht; clear ht
  have HZ := Lib.hid hz; clear hz
  go_enter Tryd.func60, Tryd.ntmps60
  go_wp2_with fail
  refine (withRoom_c w B A c n l _ h (by have := HN.out; omega) (by omega) (by omega)).mono ?_
  rintro e w1 ⟨A1, c1, rfl, hown1, hb1⟩
  go_wp2_with fail
  refine (fold_c s.size w1 (by omega) (by omega)).mono ?_
  rintro e w2 ⟨rfl, rfl⟩
  go_wp2_with fail
  refine (appendSevens_c w1 w.heap.size A1 c1 n l (PNum.zig s.size) hown1 hb1.size (by have := HN.out; omega) HZ.out).mono ?_
  rintro e w2 ⟨A2, c2, rfl, hown2, hb2⟩
  have hsz := hb1.size
  have hsz2 := hb2.size
  go_wp2_with (at_builtin; go_must (refine wpList_appStr rfl (.tmp 15) (.tmp 16) _ _ rfl w.heap.size 5 Tryd.underlying29 Tryd.underlying9 byte_info _ _ _ rfl hown2 s rfl ?c1 ?c2 ?c3 ?_))
  case c1 => have := HN.out; have := HT.out; unfold maxLen; omega
  case c2 => have := HN.out; have := HT.out; omega
  case c3 => omega
  intro A3 c3 w3 hown3 hg3 hb3
  go_wp2_with fail
  go_ret
  refine ⟨A3, c3, rfl, ?_, (hb1.trans hb2).trans hb3⟩
  rw [bs_append]
  exact hown3

end Go.Proofs.YtgcpofiecbpfbaaDoor

/- Contracts of num.Put, num.PutText. -/
namespace Go.Proofs.YtgcpofiecbpfbaaDoor
open Go.RowKit

theorem Put_c (w : World) (B : Nat) (A : Option Addr) (c n : Nat) (l : List Int) (x : Int) (h : Rd w B A c 1 n (bs l)) (hn : n ≤ 1000000000000) (h1 : -9223372036854775808 ≤ x) (h2 : x ≤ 9223372036854775807) :
    Calls Tryd.prog 30 #[.slice A n c, .int .i64 x] w fun e w' => ∃ A' c', e = .returned (.slice A' (n + (PNum.sev (PNum.zig x)).length) c') ∧
      w'.ownsRow w.heap.size 5 1 (.slice A' (n + (PNum.sev (PNum.zig x)).length) c') (n + (PNum.sev (PNum.zig x)).length) (bs (l ++ PNum.sev (PNum.zig x))) ∧ Below w.heap.size w w' := by
  have HN := Lib.hid hn; clear hn
  have H1 := Lib.hid h1; clear h1
  have H2 := Lib.hid h2; clear h2
  go_enter Tryd.func30, Tryd.ntmps30
  go_wp2_with fail
  refine (withRoom_c w B A c n l 10 h (by have := HN.out; omega) (by omega) (by omega)).mono ?_
  rintro e w1 ⟨A1, c1, rfl, hown1, hb1⟩
  go_wp2_with fail
  refine (fold_c x w1 H1.out H2.out).mono ?_
  rintro e w2 ⟨rfl, rfl⟩
  go_wp2_with fail
  refine (appendSevens_c w1 w.heap.size A1 c1 n l (PNum.zig x) hown1 hb1.size (by have := HN.out; omega) (PNum.zig_lt x H1.out H2.out)).mono ?_
  rintro e w2 ⟨A2, c2, rfl, hown2, hb2⟩
  go_wp2_with fail
  go_ret
  exact ⟨A2, c2, rfl, hown2, hb1.trans hb2⟩
end Go.Proofs.YtgcpofiecbpfbaaDoor

/- Contracts of numbersOf, encodeOne. -/
namespace Go.Proofs.YtgcpofiecbpfbaaDoor
open Go.RowKit

/-- An entry's numbers, as an array by value. -/
def nv (e : Ent) : Value := .agg #[.int .i64 e.fr, .int .i64 e.boot, .int .i64 e.seq, .int .i64 e.ord, .int .i64 e.lev, .int .i64 e.stamp]

set_option maxRecDepth 100000 in
theorem numbersOf_c (w : World) (e : Ent) : Calls Tryd.prog 59 #[ev e] w fun x w' => x = .returned (nv e) ∧ Below w.heap.size w w' := by
  obtain ⟨fr, boot, seq, ord, lev, stamp, data⟩ := e
  show Calls _ _ #[.agg #[.int .i64 fr, .int .i64 boot, .int .i64 seq, .int .i64 ord, .int .i64 lev, .int .i64 stamp, .string data]] _ _
  go_enter Tryd.func59, Tryd.ntmps59
  go_wp2_with fail
  have K := Blk.new (w.alloc (.cells #[.int .i64 fr, .int .i64 boot, .int .i64 seq, .int .i64 ord, .int .i64 lev, .int .i64 stamp, .string data] 38)) #[.int .i64 fr, .int .i64 boot, .int .i64 seq, .int .i64 ord, .int .i64 lev, .int .i64 stamp] 87
  rw [show (w.alloc (.cells #[.int .i64 fr, .int .i64 boot, .int .i64 seq, .int .i64 ord, .int .i64 lev, .int .i64 stamp, .string data] 38)).heap.size = w.heap.size + 1 by simp] at K
  refine bodyPost_ret (v := nv ⟨fr, boot, seq, ord, lev, stamp, data⟩) (results_cell_row rfl _ _ (w.heap.size + 1) _ _ _ _ rfl K Tryd.underlying87 rfl (by kernel_rfl)) rfl ⟨rfl, ((Below.refl _ _).alloc (Nat.le_refl _) _).alloc (by simp) _⟩

/-- What is a later world's own is an elder one's own. -/
theorem own_from {w : World} {base b0 : Nat} {e : TypeId} {k n : Nat} {v : Value} {xs : List Value} (h : w.ownsRow base e k v n xs) (hb : b0 ≤ base) : w.ownsRow b0 e k v n xs := by
  refine ⟨h.1, ?_⟩
  rcases h.2 with h2 | ⟨g, cap, cur, h1, h2, h3⟩
  · exact .inl h2
  · exact .inr ⟨g, cap, cur, h1, Nat.le_trans hb h2, h3⟩

section
variable {P : Program}
theorem run_part1 {w : World} {e : TypeId} {cs : List Value} {i : Nat} {u : Value} (ha : (isAgg e).run P w = .ok false w) (hu : cs[i]? = some u) : (part e cs.toArray i).run P w = .ok u w := by
  unfold part
  simp [Sem.run_bind, ha, hu]
/-- 'a[i]' of an array by value, its elements of one cell. -/
theorem wpList_index1 {w : World} {ops : Array Oper} {rest : List Oper} {o : Oper} {a : Act} {Q : Exit → Act → World → Prop} (hgd : o.guard = none) (t : TypeId) (x ix : Operand) (ho : o.op = .index t x ix)
    (n : Nat) (e : TypeId) (ht : P.underlying t = some (.array n e)) (ha : ∀ w, (isAgg e).run P w = .ok false w) (hz : ∀ w, (sizeOf e).run P w = .ok 1 w)
    (cs : List Value) (hx : a.eval x = .agg cs.toArray) (i : Nat) (hi : a.eval ix = .int .i64 i) (hlt : i < n) (u : Value) (hu : cs[i]? = some u)
    (h : wpList P ops Q rest (a.put o.dst u) w) : wpList P ops Q (o :: rest) a w := by
  refine wpList_plain hgd fun K hK => ?_
  have hrun : (Instr.index t (.agg cs.toArray) (.int .i64 i)).run P w = .ok u w := by
    simp [Instr.index, Sem.run_bind, asIntOf, run_underlying ht, hlt, hz, run_part1 (ha w) hu]
  unfold Oper.wp execOp
  simp only [ho, hx, hi, Sem.run_bind, hrun, Result.andThen_ok, Sem.run_pure]
  exact hK _ _ h
end

theorem encN_snoc {l : List Int} {i : Nat} {x : Int} (h : l[i]? = some x) : PEnt.encN (l.take (i + 1)) = PEnt.encN (l.take i) ++ PNum.sev (PNum.zig x) := by
  obtain ⟨hi, he⟩ := List.getElem?_eq_some_iff.1 h
  rw [List.take_succ_eq_append_getElem hi, PEnt.encN_append, he]
  simp [PEnt.encN]

set_option maxRecDepth 100000 in
theorem encodeOne_c (w : World) (e : Ent) (hf : PEnt.Fit e) (hd : e.data.size ≤ 65536) : Calls Tryd.prog 50 #[ev e] w fun x w' => ∃ A' c', x = .returned (.slice A' (PEnt.encE e).length c') ∧
    w'.ownsRow w.heap.size 5 1 (.slice A' (PEnt.encE e).length c') (PEnt.encE e).length (bs (PEnt.encE e)) ∧ Below w.heap.size w w' := by
  have HF := Lib.hid hf
  have HNF := Lib.hid (PEnt.nums_fit hf)
  have HD := Lib.hid hd
  have HN := Lib.hid (show PEnt.nums e = [e.fr, e.boot, e.seq, e.ord, e.lev, e.stamp] from rfl)
  have HV := Lib.hid (show nv e = .agg ((PEnt.nums e).map (Value.int .i64)).toArray from rfl)
  have KN := Lib.hid (fun w => numbersOf_c w e)
  have HE := Lib.hid (show PEnt.encE e = PEnt.encN (PEnt.nums e) ++ (PNum.sev (PNum.zig e.data.size) ++ sb e.data) from rfl)
  have HL := Lib.hid (show (PEnt.nums e).length = 6 from rfl)
  generalize PEnt.nums e = N at *
  generalize PEnt.encE e = E at *
  clear hf hd
  obtain ⟨fr, boot, seq, ord, lev, stamp, data⟩ := e
  show Calls _ _ #[.agg #[.int .i64 fr, .int .i64 boot, .int .i64 seq, .int .i64 ord, .int .i64 lev, .int .i64 stamp, .string data]] _ _
  go_enter Tryd.func50, Tryd.ntmps50
  go_wp2_with fail
  have b0 := (Below.refl w.heap.size w).alloc (Nat.le_refl _) (.cells #[.int .i64 fr, .int .i64 boot, .int .i64 seq, .int .i64 ord, .int .i64 lev, .int .i64 stamp, .string data] 38)
  have k0 := Blk.newEnt w 38 ⟨fr, boot, seq, ord, lev, stamp, data⟩
  refine (KN.out _).mono ?_
  rw [HV.out]
  rintro e w1 ⟨rfl, b1⟩
  have B1 := Lib.hid (b0.trans (b1.mono b0.size))
  have K1 := Lib.hid (k0.past b1)
  clear k0 b0 b1 HV KN
  go_wp2_with fail
  go_loopw [3, 5, 8] (fun s3 _ s8 wr => ∃ (i m c : Nat) (A : Option Addr), i ≤ 6 ∧ m ≤ 10 * i ∧ s8 = .int .i64 i ∧ s3 = .slice A m c ∧ Hid (Rd wr wr.heap.size A c 1 m (bs (PEnt.encN (N.take i)))) ∧ Hid (Below w.heap.size w wr) ∧ Hid (Blk wr w.heap.size 38 (ecs ⟨fr, boot, seq, ord, lev, stamp, data⟩)))
    (fun _ _ s8 _ => 6 - (intOf s8).toNat)
  case atStart => exact ⟨0, 0, 0, none, by omega, by omega, rfl, rfl, Lib.hid (Rd.nil _ _ _), B1, K1⟩
  case round =>
    clear B1 K1
    obtain ⟨i, m, c, A, hi, hm, rfl, rfl, R, B, K⟩ := hrel
    by_cases hlt : i < 6
    · obtain ⟨x, hx⟩ : ∃ x, N[i]? = some x := ⟨_, List.getElem?_eq_getElem (by rw [HL.out]; exact hlt)⟩
      have hxf := HNF.out x (List.mem_of_getElem? hx)
      have HS := Lib.hid (encN_snoc hx)
      have HX := Lib.hid hx
      have ht := PNum.sev_ten (PNum.zig x) (PNum.zig_lt x hxf.1 hxf.2)
      have HT := Lib.hid ht
      have HFX := Lib.hid hxf
      clear hx ht hxf
      go_wp2_with (with_reducible show wpList _ _ _ ((⟨some 10, Op.index _ _ _, _, _, _, _⟩ : Oper) :: _) _ _
                   go_must (refine wpList_index1 rfl 87 (.tmp 7) (.tmp 8) rfl 6 2 Tryd.underlying87 Tryd.isAgg2 Tryd.sizeOf2 (N.map (Value.int .i64)) rfl i rfl hlt (.int .i64 x) (by rw [List.getElem?_map, HX.out]; rfl) ?_))
      refine (Put_c wr _ A c m _ x R.out (by omega) HFX.out.1 HFX.out.2).mono ?_
      rintro e w2 ⟨A2, c2, rfl, hown, b2⟩
      have R2 := Lib.hid (Rd.of_own hown)
      have B2 := Lib.hid (B.out.trans (b2.mono B.out.size))
      have K2 := Lib.hid (K.out.past b2)
      clear hown b2 R B K
      go_wp2_with fail
      go_roundw
      case rel => exact ⟨i + 1, _, c2, A2, by omega, by have := HT.out; omega, by go_num, rfl, Lib.hid (by rw [HS.out]; exact R2.out), B2, K2⟩
      case measure => simp [intOf]; omega
    · obtain rfl : i = 6 := by omega
      have hN : N.take 6 = N := List.take_of_length_le (by rw [HL.out]; omega)
      rw [hN] at R
      have hrl := Lib.hid R.out.blen
      obtain ⟨-, -, -, -, -, -, c6⟩ := K.out.ent
      clear hN K
      have hEl := Lib.hid (show E.length = m + (PNum.sev (PNum.zig data.size)).length + data.size by
        rw [HE.out, List.length_append, List.length_append, hrl.out, sb_length]; omega)
      go_wp2_with fail
      refine (PutText_c wr _ A c m _ data R.out (by omega) (by have := HD.out; omega)).mono ?_
      rintro e w2 ⟨A2, c2, rfl, hown, b2⟩
      have B2 := Lib.hid (B.out.trans (b2.mono B.out.size))
      have own2 := own_from hown B.out.size
      clear b2
      go_wp2_with fail
      go_ret
      refine ⟨A2, c2, ?_, ?_, B2.out⟩
      · rw [hEl.out]; rfl
      · rw [hEl.out]
        have e3 : PEnt.encN N ++ PNum.sev (PNum.zig data.size) ++ sb data = E := by rw [HE.out, List.append_assoc]
        rw [← e3]
        exact own2
end Go.Proofs.YtgcpofiecbpfbaaDoor

/- Contract of Encode. -/
namespace Go.Proofs.YtgcpofiecbpfbaaDoor
open Go.RowKit

theorem all_snoc {l : List Ent} {i : Nat} {e : Ent} (h : l[i]? = some e) : (l.take (i + 1)).all PEnt.may = ((l.take i).all PEnt.may && PEnt.may e) := by
  obtain ⟨hi, he⟩ := List.getElem?_eq_some_iff.1 h
  rw [List.take_succ_eq_append_getElem hi, he]; simp
theorem enc_snoc {l : List Ent} {i : Nat} {e : Ent} (h : l[i]? = some e) : PEnt.enc (l.take (i + 1)) = PEnt.enc (l.take i) ++ PEnt.encE e := by
  obtain ⟨hi, he⟩ := List.getElem?_eq_some_iff.1 h
  rw [List.take_succ_eq_append_getElem hi, PEnt.enc_append, he]; simp [PEnt.enc]
theorem encode_bad {l : List Ent} {e : Ent} (hm : e ∈ l) (h : PEnt.may e = false) : PEnt.encode l = [] := by
  unfold PEnt.encode
  rw [if_neg]
  intro ha
  have := List.all_eq_true.1 ha e hm
  rw [h] at this; cases this
theorem encode_good {l : List Ent} (h : l.all PEnt.may = true) : PEnt.encode l = PEnt.enc l := if_pos h

set_option maxHeartbeats 1000000 in
set_option maxRecDepth 100000 in
theorem Encode_c (w : World) (B : Nat) (A : Option Addr) (c n : Nat) (l : List Ent) (h : Rd w B A c 7 n (els l)) (hn : n ≤ 1000000) :
    Calls Tryd.prog 32 #[.slice A n c] w fun x w' => ∃ A' c', x = .returned (.slice A' (PEnt.encode l).length c') ∧
      w'.ownsRow w.heap.size 5 1 (.slice A' (PEnt.encode l).length c') (PEnt.encode l).length (bs (PEnt.encode l)) ∧ Below w.heap.size w w' := by
  have R0 := Lib.hid h.tight
  have HLn := Lib.hid h.elen
  clear h
  go_enter Tryd.func32, Tryd.ntmps32
  go_wp2_with fail
  go_loopw [3, 5, 8] (fun s3 _ s8 wr => ∃ (i m c' : Nat) (A' : Option Addr), i ≤ n ∧ m ≤ 86 * i ∧ s8 = .int .i64 i ∧ s3 = .slice A' m c' ∧ Hid ((l.take i).all PEnt.may = true) ∧
      Hid (wr.ownsRow w.heap.size 5 1 (.slice A' m c') m (bs (PEnt.enc (l.take i)))) ∧ Hid (Below w.heap.size w wr))
    (fun _ _ s8 _ => n - (intOf s8).toNat)
  case atStart => exact ⟨0, 0, 0, none, by omega, by omega, rfl, rfl, Lib.hid (by simp), Lib.hid (World.ownsRow_nil _ _ _ _), Lib.hid (Below.refl _ _)⟩
  case round =>
    obtain ⟨i, m, c1, A1, hi, hm, rfl, rfl, HA, O, BL⟩ := hrel
    by_cases hlt : i < n
    · obtain ⟨b, o, e, rfl, -, he, hmem, d0, d1, d2, d3, d4, d5, d6⟩ := (R0.out.below BL.out).ent hlt
      have HE := Lib.hid he
      have HM := Lib.hid hmem
      clear he hmem
      go_wp2_with fail
      clear d0 d1 d2 d3 d4 d5 d6
      have b1 := (Below.refl wr.heap.size wr).alloc (Nat.le_refl _) (.cells #[.int .i64 e.fr, .int .i64 e.boot, .int .i64 e.seq, .int .i64 e.ord, .int .i64 e.lev, .int .i64 e.stamp, .string e.data] 38)
      have K1 := Blk.newEnt wr 38 e
      generalize wr.alloc (.cells #[.int .i64 e.fr, .int .i64 e.boot, .int .i64 e.seq, .int .i64 e.ord, .int .i64 e.lev, .int .i64 e.stamp, .string e.data] 38) = w1 at *
      cases hy : PEnt.may e
      · have HB := Lib.hid (encode_bad HM.out hy)
        refine (May_c w1 e).mono ?_
        rw [hy]
        rintro x w2 ⟨rfl, b2⟩
        have B2 := Lib.hid ((BL.out.trans (b1.mono BL.out.size)).trans (b2.mono (Nat.le_trans BL.out.size b1.size)))
        clear b1 b2 K1 hy
        go_wp2_with fail
        go_ret
        refine ⟨none, 0, ?_, ?_, B2.out⟩
        · rw [HB.out]; rfl
        · rw [HB.out]; exact World.ownsRow_nil _ _ _ _
      · have hmay := (PEnt.may_iff e).1 hy
        have HS1 := Lib.hid (show (l.take (i + 1)).all PEnt.may = true by rw [all_snoc HE.out, HA.out, hy]; rfl)
        have HS2 := Lib.hid (enc_snoc HE.out)
        have HY := Lib.hid hmay
        refine (May_c w1 e).mono ?_
        rw [hy]
        rintro x w2 ⟨rfl, b2⟩
        have B2 := Lib.hid ((BL.out.trans (b1.mono BL.out.size)).trans (b2.mono (Nat.le_trans BL.out.size b1.size)))
        have O2 := Lib.hid (own_below (own_below O.out b1) b2)
        obtain ⟨d0, d1, d2, d3, d4, d5, d6⟩ := (K1.past b2).ent
        clear b1 b2 K1 hy hmay O BL
        go_wp2_with fail
        have hd16 := HY.out.2.2.2.2.2.2
        have hel := PEnt.encE_len HY.out.fit (by omega)
        have HEL := Lib.hid (show (PEnt.encE e).length ≤ 86 by omega)
        refine (encodeOne_c w2 e HY.out.fit (by omega)).mono ?_
        clear hel
        rintro x w3 ⟨A3, c3, rfl, hown, b3⟩
        have B3 := Lib.hid (B2.out.trans (b3.mono B2.out.size))
        have O3 := Lib.hid (own_below O2.out b3)
        have R3 := Lib.hid (Rd.of_own hown)
        clear hown b3 d0 d1 d2 d3 d4 d5 d6 O2 B2
        generalize hk : (PEnt.encE e).length = k at *
        have HK := Lib.hid hk
        clear hk
        go_wp2_with (at_builtin; go_must (refine wpList_app rfl (.tmp 15) (.tmp 17) _ rfl w.heap.size 5 _ 1 1 Tryd.underlying29 byte_info rfl (by omega) _ m (bs (PEnt.enc (l.take i))) rfl O3.out _ A3 c3 k (bs (PEnt.encE e)) rfl R3.out (bs_one _) ?c1 ?c2 ?c3 ?_))
        case c1 => have := HEL.out; unfold maxLen; omega
        case c2 => have := HEL.out; omega
        case c3 => exact B3.out.size
        intro A4 c4 w4 hown4 hgrow4 hbel4
        have B4 := Lib.hid (B3.out.trans hbel4)
        have O4 := Lib.hid hown4
        clear hown4 hgrow4 hbel4 O3 R3 B3
        go_wp2_with fail
        go_roundw
        case rel => exact ⟨i + 1, m + k, c4, A4, by omega, by have := HEL.out; omega, by go_num, rfl, HS1, Lib.hid (by rw [HS2.out, bs_append]; exact O4.out), B4⟩
        case measure => simp [intOf]; omega
    · obtain rfl : i = n := by omega
      have ht : l.take i = l := List.take_of_length_le (by rw [HLn.out]; omega)
      rw [ht] at HA O
      have HG := Lib.hid (encode_good HA.out)
      have hl := O.out.1
      rw [bs_length] at hl
      have HL2 := Lib.hid (show (PEnt.enc l).length = m by omega)
      clear ht hl
      go_wp2_with fail
      go_ret
      refine ⟨A1, c1, ?_, ?_, BL.out⟩
      · rw [HG.out, HL2.out]; rfl
      · rw [HG.out, HL2.out]; exact O.out
end Go.Proofs.YtgcpofiecbpfbaaDoor

