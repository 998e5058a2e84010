/- Parts of structs that came in: a cell by its field, a message's cells. No program is named here. -/
import Derived.Test.YtacipjdaiglnjaaGreatDoorSeg10
import Derived.Test.YtacipjdaiglnjaaGreatDoorSeg12
import Derived.Test.YtacipjdaiglnjaaGreatDoorSeg26
namespace Go.Proofs.YtacipjdaiglnjaaGreatDoor
open Go.RowKit Go.ChangeShapes Go.WideShapes Go.Deep

section
variable {H : Type} {enc : TypeId × Value → H} {P : Program} {w : World} {base : Nat} {spare : Nat → Bool} {held : Bool}
/-- One cell of a struct, by its field. -/
theorem one_of {cs : List Value} {u v : Value} {o : Nat} (hu : cs[o]? = some u) (hv : (cs.drop o).take 1 = [v]) : u = v := by
  have h3 := congrArg (fun q => q[0]?) hv
  simp only [List.getElem?_take, List.getElem?_drop, Nat.lt_succ_self, if_true, Nat.add_zero, List.getElem?_cons_zero] at h3
  exact Option.some.inj (hu.symm.trans h3)

/-- A message's cells that came in. -/
theorem msg_cells {t E : TypeId} {fs es : Array Field} {fuel : Nat} {cs : List Value} {x : DataW H × List MemPlace} (ht : P.underlying t = some (.struct fs)) (hC : P.cellsOf t = 13) (hT : MsgT P fs E)
    (hE : P.underlying E = some (.struct es)) (hEC : P.cellsOf E = 7) (hET : EntT P es)
    (h : DataW.trod enc P w base spare held fuel t cs = some x) : cs.length = 13 ∧ ∀ (j : Nat) (u : Value), cs[j]? = some u → FM w j u := by
  obtain ⟨xs, n, rfl, hx, hl, hxl, hfs⟩ := DataW.trod_struct ht h
  rw [hC] at hl
  refine ⟨hl, fun j u hu => ?_⟩
  have hj := (List.getElem?_eq_some_iff.1 hu).1
  have hjf : j < fs.size := by rw [hT.1]; omega
  have hy := hfs j fs[j] (Array.getElem?_eq_getElem hjf)
  rw [List.getElem?_eq_getElem (show j < xs.length by omega)] at hy
  obtain ⟨h1, h2, h3, h4, h5⟩ := hT.2 j fs[j] (Array.getElem?_eq_getElem hjf)
  have key : ∀ v, (cs.drop fs[j].offset).take (P.cellsOf fs[j].type) = [v] → u = v := by
    intro v hv
    rw [h1, h2] at hv
    exact one_of hu hv
  by_cases e8 : j = 8
  · obtain ⟨A, n, c, l, hcs, hr, ho⟩ := open_ents (h4 e8) hE hEC hET hy
    exact ⟨fun h => absurd e8 h, fun _ => ⟨A, n, c, l, key _ hcs, hr, ho⟩, fun h => by omega⟩
  · by_cases e12 : j = 12
    · obtain ⟨b, hcs, _⟩ := DataW.trod_bool (h5 e12) hy
      exact ⟨fun _ h => absurd e12 h, fun h => absurd h e8, fun _ => ⟨b, key _ hcs⟩⟩
    · obtain ⟨x, hcs, _, hw⟩ := DataW.trod_int (h3 e8 e12) hy
      exact ⟨fun _ _ => ⟨x, key _ hcs, hw⟩, fun h => absurd h e8, fun h => absurd h e12⟩

/-- An int64 at place o. -/
def I1 (P : Program) (f : Field) (o : Nat) : Prop := P.underlying f.type = some (.int .i64) ∧ P.cellsOf f.type = 1 ∧ f.offset = o
end
end Go.Proofs.YtacipjdaiglnjaaGreatDoor

