/- Contracts of strings.Cut at "=", of Word, of the document's Word. -/
import Derived.Test.YtapleleaogjcjaaDoorPlainTab
import Derived.Test.YtapleleaogjcjaaDoorRows
import Derived.Test.YtapleleaogjcjaaDoorHeld
import Derived.Lib.Bytealg
import Derived.Deep.DeepMust
import Derived.BigRegion
namespace Go.Proofs.YtapleleaogjcjaaDoor
open Go.RowKit PTab

/-- Its number; none: -1. -/
def eqI (l : List UInt8) : Int := match eqAt l with | some i => (i : Int) | none => -1
theorem eqI_eq : ∀ l, Lib.indexByte l 61 = eqI l
  | [] => rfl
  | b :: r => by
    have h := eqI_eq r
    unfold eqI at h ⊢
    simp only [Lib.indexByte, eqAt]
    by_cases hb : (b == 61) = true
    · simp [hb]
    · simp only [hb, Bool.false_eq_true, if_false, h]
      cases he : eqAt r
      · simp
      · simp
theorem eqAt_lt : ∀ {l : List UInt8} {i : Nat}, eqAt l = some i → i < l.length
  | [], i, h => by cases h
  | b :: r, i, h => by
    simp only [eqAt] at h
    split at h
    · cases h; simp
    · obtain ⟨j, hj, rfl⟩ := Option.map_eq_some_iff.1 h
      have := eqAt_lt hj
      simp; omega

theorem IndexByte_c (s : ByteArray) (w : World) :
    Calls Tryd.prog 44 #[.string s, .int .u8 61] w fun e w' => e = .returned (.int .i64 (eqI s.data.toList)) ∧ w = w' := by
  go_enter Tryd.func44, Tryd.ntmps44
  go_wp2
  rw [run_callFunc_extern Tryd.func59 (by kernel_rfl) (by kernel_rfl) (by kernel_rfl) (e := Extern.BytealgIndexByte.indexByte) (by kernel_rfl), Lib.run_indexByteString]
  simp only [Result.andThen]
  rw [Oper.upon_value]
  go_wp2
  go_ret
  exact ⟨by rw [← eqI_eq]; rfl, rfl⟩

def eqS : ByteArray := ⟨#[61]⟩
set_option maxRecDepth 100000 in
theorem Index_c (s : ByteArray) (w : World) :
    Calls Tryd.prog 40 #[.string s, .string eqS] w fun e w' => e = .returned (.int .i64 (eqI s.data.toList)) ∧ w = w' := by
  unfold eqS
  by_cases hs : s = ⟨#[61]⟩
  · subst hs
    go_enter Tryd.func40, Tryd.ntmps40
    go_wp2
    go_ret
    exact ⟨rfl, rfl⟩
  · have h1 : (([61] : List UInt8) == s.toList) = false := by
      have := eqb_ne (a := ⟨#[61]⟩) (fun h => hs h.symm)
      unfold eqb at this
      rwa [Lib.toList_data ⟨#[61]⟩] at this
    go_enter Tryd.func40, Tryd.ntmps40
    go_wp2_with fail
    refine (IndexByte_c s w).mono ?_
    rintro e w1 ⟨rfl, rfl⟩
    go_wp2
    go_ret
    exact ⟨rfl, rfl⟩

theorem cut_facts {s : ByteArray} {i : Nat} (h : eqAt s.data.toList = some i) : i + 1 ≤ s.size := by
  have := eqAt_lt h
  rw [Array.length_toList] at this
  exact this
/-- Ahead of the first '=', behind it, whether there is one. -/
def cutV (s : ByteArray) : Value :=
  match eqAt s.data.toList with
  | some i => .tuple #[.string (s.extract 0 i), .string (s.extract (i + 1) s.size), .bool true]
  | none => .tuple #[.string s, .string ⟨#[]⟩, .bool false]
set_option maxRecDepth 100000 in
theorem sCut_c (s : ByteArray) (w : World) (hs : s.size ≤ 1000000) :
    Calls Tryd.prog 33 #[.string s, .string eqS] w fun e w' => e = .returned (cutV s) ∧ Below w.heap.size w w' := by
  unfold cutV
  cases he : eqAt s.data.toList with
  | none =>
    have hI : eqI s.data.toList = -1 := by unfold eqI; rw [he]
    show Calls _ _ #[.string s, .string ⟨#[61]⟩] _ _
    go_enter Tryd.func33, Tryd.ntmps33
    go_wp2_with fail
    refine (Index_c s w).mono ?_
    rw [hI]
    rintro e w1 ⟨rfl, rfl⟩
    go_wp2
    go_ret3
    exact ⟨rfl, Below.refl _ _⟩
  | some i =>
    have hI : eqI s.data.toList = i := by unfold eqI; rw [he]
    have hi := cut_facts he
    have c1 : (0 : Int) ≤ (i : Int) := by omega
    have c2 : (i : Int) ≤ (s.size : Int) := by omega
    have c3 : (0 : Int) ≤ (i : Int) + 1 := by omega
    have c4 : (i : Int) + 1 ≤ (s.size : Int) := by omega
    show Calls _ _ #[.string s, .string ⟨#[61]⟩] _ _
    go_enter Tryd.func33, Tryd.ntmps33
    go_wp2_with fail
    refine (Index_c s w).mono ?_
    rw [hI]
    rintro e w1 ⟨rfl, rfl⟩
    go_wp2_with fail
    go_region
    go_wp2
    go_ret3
    exact ⟨rfl, (Below.refl _ _).drew⟩
end Go.Proofs.YtapleleaogjcjaaDoor
