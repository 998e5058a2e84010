/- For the proof texts (pack.py prunes the pieces: these stand apart). What the rows' condition on the listed variables gives: the table of crc lies as it is declared. -/
import Derived.Test.YtacipjdaiglnjaaGreatDoorSeg1
import Derived.Lib.LaidTab
import Derived.LaidMore
namespace Go.Proofs.YtacipjdaiglnjaaGreatDoor
open Go.RowKit

/-- The table. -/
def LaidAt (w : World) : Prop := Tab w

theorem laidAt_of {W : World} (h : laidMetH Tryz.prog [("curfew/crc.halves", Rows.laid_curfew_crc_halves)] W) : LaidAt W := by
  rw [MakeChecks.laidMetH_plain _ _ _ (by kernel_rfl)] at h
  have hT : Lib.TabIs Tryz.prog W "curfew/crc.halves" .u32 (PCrc.tab.map fun n : Nat => (n : Int)) :=
    Lib.tabIs_of_head (g := 0) (t := 257) (e := 164) (n := 16) (rest := []) (by kernel_rfl) (by kernel_rfl) Tryz.underlying257 Tryz.underlying164 (by kernel_rfl) (by kernel_rfl) h
  intro j hj
  have := hT.cell (g := 0) (by kernel_rfl) j (by simpa [PCrc.tab] using hj)
  rw [this]
  simp [List.getD, List.getElem?_map]
  cases PCrc.tab[j]? <;> simp

-- what the walk is told of a slice of integers that came in
theorem rd_ofRow {k : IntKind} {w : World} {a : Option Addr} {len cap : Nat} {zs : List Int}
    (h : (a = none ∧ len = 0 ∧ cap = 0 ∧ zs = []) ∨
      ∃ x, a = some x ∧ len ≤ cap ∧ cap ≤ maxLen ∧ zs.length = cap ∧ (∀ i, i < zs.length → w.cell? (x.add i) = some (.int k (zs.getD i 0))) ∧ ∀ n ∈ zs, (Lit.int k n).wf = true) :
    Rd w w.heap.size a cap 1 len ((zs.take len).map (Value.int k)) ∧ ∀ n ∈ zs.take len, (Lit.int k n).wf = true := by
  rcases h with ⟨rfl, rfl, rfl, rfl⟩ | ⟨x, rfl, hl, hm, hz, hc, hw⟩
  · exact ⟨Rd.nil _ _ _, by simp⟩
  · refine ⟨⟨by simp; omega, hl, hm, fun hh => (by cases hh), fun hn => ?_⟩, fun n hn => hw n (List.mem_of_mem_take hn)⟩
    obtain ⟨b, o, spot⟩ := x
    have h0 := hc 0 (by omega)
    have hs : spot = none := by simpa [Addr.add] using World.cell?_spot h0
    subst hs
    refine ⟨b, o, rfl, ?_, fun j u hu => ?_⟩
    · exact World.block_lt_of_cell? w _ (by simpa [Addr.add] using h0)
    · have hj : j < zs.length := by
        have := (List.getElem?_eq_some_iff.1 hu).1
        simp at this; omega
      have := hc j hj
      rw [add_zero_spot] at this
      rw [this]
      rw [List.getElem?_map, List.getElem?_take] at hu
      split at hu
      · rw [List.getElem?_eq_getElem hj] at hu
        simp only [Option.map_some, Option.some.injEq] at hu
        rw [← hu]
        simp [List.getD, List.getElem?_eq_getElem hj]
      · simp at hu

end Go.Proofs.YtacipjdaiglnjaaGreatDoor

