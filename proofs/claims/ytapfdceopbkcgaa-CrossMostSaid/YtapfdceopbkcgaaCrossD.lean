/- Contracts of package cross: Count, Best. -/
import Derived.Test.YtapfdceopbkcgaaCrossC
import Derived.Laws.ResultCell
namespace Go.Proofs.Ytapfdceopbkcgaa
open Go.RowKit
open PDrift (pr)
open PCross (at_ cnt)

theorem results_row_tmp {P : Program} {fn : Func} {p u : Tmp} {ty : TypeId} (h : fn.results = #[.cell p ty, .tmp u]) (tmps : Array Value) (w : World) (g : Nat) (t : TypeId) (cs : Array Value) (fr : Nat × Nat) (d : TypeDesc)
    {v : Value} (hp : tmps.getD p undef = .pointer (some ⟨g, 0, none⟩)) (hv : tmps.getD u undef = v) (hg : w.heap[g]? = some (.cells cs t fr))
    (hu : P.underlying ty = some d) (hd : (match d with | .struct _ | .array _ _ => true | _ => false) = true) (hi : (P.info? ty).map (·.size) = some cs.size) :
    (results fn tmps).run P w = .ok (.tuple #[.agg cs, v]) w := by
  rw [results_cell_tmp h, hp, hv]
  simp [asAddr, run_loadVar_row w g t ty cs fr d hg hu hd hi, Result.andThen]

/-- A range by value. -/
def rg (lo hi : Int) : Value := .agg #[.int .i64 lo, .int .i64 hi]

set_option maxHeartbeats 1000000 in
set_option maxRecDepth 100000 in
theorem cCount_c (w : World) (A : Option Addr) (c n : Nat) (l : List (Int × Int)) (h : Rd w w.heap.size A c 2 n (tcs l)) (hn : n ≤ 1000) (t : Int) :
    Calls Try.prog 15 #[.slice A n c, .int .i64 t] w fun e w' => e = .returned (.int .i64 (cnt l t : Nat)) ∧ Below w.heap.size w w' := by
  have hln := h.plen
  have R0 := Lib.hid h
  clear h
  go_enter Try.func15, Try.ntmps15
  go_wp2_with fail
  go_loopw [5, 10] (fun s5 s10 wr => ∃ i q : Nat, i ≤ n ∧ q ≤ i ∧ s5 = .int .i64 q ∧ s10 = .int .i64 i ∧ Hid (cnt (l.take i) t = q) ∧ Hid (Rd wr w.heap.size A c 2 n (tcs l)) ∧ Hid (Below w.heap.size w wr)) (fun _ s10 _ => n - (intOf s10).toNat)
  case atStart => exact ⟨0, 0, by omega, by omega, rfl, rfl, Lib.hid rfl, R0, Lib.hid (Below.refl _ _)⟩
  case round =>
    clear R0
    obtain ⟨i, q, hi, hq, rfl, rfl, HQ, RT, BT⟩ := hrel
    by_cases hin : i < n
    · obtain ⟨b, o, hA, hbB, k1, k2⟩ := RT.out.pairB hin
      subst hA
      obtain ⟨x, hx⟩ : ∃ x, (pr l i).1 = x := ⟨_, rfl⟩
      obtain ⟨y, hy⟩ : ∃ y, (pr l i).2 = y := ⟨_, rfl⟩
      rw [hx] at k1
      rw [hy] at k2
      have hil : i < l.length := by omega
      have HP := Lib.hid (show pr l i = (x, y) by rw [← hx, ← hy])
      have bel := (Below.refl wr.heap.size wr).alloc (Nat.le_refl _) (.cells #[.int .i64 x, .int .i64 y] 28)
      have B2 := Lib.hid (BT.out.trans (bel.mono BT.out.size))
      have R2 := Lib.hid (RT.out.below (bel.mono BT.out.size))
      clear hx hy bel RT
      rcases (by omega : x ≤ t ∧ t ≤ y ∨ x ≤ t ∧ ¬ t ≤ y ∨ ¬ x ≤ t) with ⟨h1, h2⟩ | ⟨h1, h2⟩ | h1
      · have HS := Lib.hid ((PCross.cnt_in l hil HP.out h1 h2).trans (congrArg (· + 1) HQ.out))
        go_wp2_with fail
        go_roundw
        case rel => exact ⟨i + 1, q + 1, by omega, by omega, by go_num, by go_num, HS, R2, B2⟩
        case measure => simp [intOf]; omega
      · have HS := Lib.hid ((PCross.cnt_out l hil HP.out (fun h => h2 h.2)).trans HQ.out)
        go_wp2_with fail
        go_roundw
        case rel => exact ⟨i + 1, q, by omega, by omega, rfl, by go_num, HS, R2, B2⟩
        case measure => simp [intOf]; omega
      · have HS := Lib.hid ((PCross.cnt_out l hil HP.out (fun h => h1 h.1)).trans HQ.out)
        go_wp2_with fail
        go_roundw
        case rel => exact ⟨i + 1, q, by omega, by omega, rfl, by go_num, HS, R2, B2⟩
        case measure => simp [intOf]; omega
    · obtain rfl : i = n := by omega
      have hq2 := HQ.out
      rw [List.take_of_length_le (by omega)] at hq2
      have HQ2 := Lib.hid hq2
      clear hq2 HQ
      go_wp2_with fail
      go_ret
      exact ⟨by rw [HQ2.out]; rfl, BT.out⟩
end Go.Proofs.Ytapfdceopbkcgaa
