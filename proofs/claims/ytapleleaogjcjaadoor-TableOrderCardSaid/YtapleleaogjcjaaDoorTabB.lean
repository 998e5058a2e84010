/- Contracts of Word, of the document's Word. -/
import Derived.Test.YtapleleaogjcjaaDoorTabA
namespace Go.Proofs.YtapleleaogjcjaaDoor
open Go.RowKit PTab

theorem eqAt_some : ∀ {l : List UInt8} {i : Nat}, l[i]? = some 61 → (∀ k, k < i → l[k]? ≠ some 61) → eqAt l = some i
  | [], i, h, _ => by simp at h
  | b :: r, 0, h, _ => by
    simp at h
    simp [eqAt, h]
  | b :: r, i + 1, h, hk => by
    have h0 := hk 0 (by omega)
    simp at h0 h
    have := eqAt_some (l := r) (i := i) h (fun k hk' => by have := hk (k + 1) (by omega); simpa using this)
    simp [eqAt, h0, this]
theorem eqAt_none : ∀ {l : List UInt8}, (∀ k : Nat, l[k]? ≠ some 61) → eqAt l = none
  | [], _ => rfl
  | b :: r, h => by
    have h0 := h 0
    simp at h0
    have := eqAt_none (l := r) (fun k => by have := h (k + 1); simpa using this)
    simp [eqAt, h0, this]
theorem word_hit {s : ByteArray} {i : Nat} (h : s.data.toList[i + 1]? = some 61) (hk : ∀ k, k < i + 1 → s.data.toList[k]? ≠ some 61) : word s = some (s.extract 0 (i + 1), s.extract (i + 2) s.size) := by
  unfold word; rw [eqAt_some h hk]
theorem word_miss {s : ByteArray} (h : ∀ k, 1 ≤ k → s.data.toList[k]? = some 61 → s.data.toList[0]? = some 61) : word s = none := by
  unfold word
  by_cases h0 : s.data.toList[0]? = some 61
  · rw [eqAt_some h0 (fun k hk => by omega)]
  · rw [eqAt_none (fun k hk => by
      rcases Nat.eq_zero_or_pos k with rfl | hp
      · exact h0 hk
      · exact h0 (h k hp hk))]

theorem wordV_some {s : ByteArray} {a b : ByteArray} (h : word s = some (a, b)) : wordV s = .tuple #[.string a, .string b, .bool true] := by unfold wordV; rw [h]
theorem wordV_none {s : ByteArray} (h : word s = none) : wordV s = .tuple #[.string ⟨#[]⟩, .string ⟨#[]⟩, .bool false] := by unfold wordV; rw [h]
theorem toList_nil_iff (s : ByteArray) : (s.toList == []) = decide (s.size = 0) := by
  rw [Lib.toList_data]
  have : s.size = s.data.toList.length := by rw [Array.length_toList]; rfl
  cases hl : s.data.toList <;> simp [this, hl]

set_option maxRecDepth 100000 in
theorem tCut_c (s : ByteArray) (w : World) (hs : s.size ≤ 1000000) :
    Calls Tryd.prog 27 #[.string s, .string eqS] w fun e w' => e = .returned (cutV s) ∧ Below w.heap.size w w' := by
  obtain ⟨x, y, z, hV⟩ : ∃ x y z, cutV s = .tuple #[.string x, .string y, .bool z] := by
    unfold cutV; split <;> exact ⟨_, _, _, rfl⟩
  have HV := Lib.hid hV
  rw [hV]
  clear hV
  show Calls _ _ #[.string s, .string ⟨#[61]⟩] _ _
  go_enter Tryd.func27, Tryd.ntmps27
  go_wp2_with fail
  refine (sCut_c s w hs).mono ?_
  rw [HV.out]
  rintro e w1 ⟨rfl, hb⟩
  go_wp2_with fail
  go_ret3
  exact ⟨rfl, hb⟩

set_option maxRecDepth 100000 in
theorem Word_c (s : ByteArray) (w : World) (hs : s.size ≤ 1000000) :
    Calls Tryd.prog 15 #[.string s] w fun e w' => e = .returned (wordV s) ∧ Below w.heap.size w w' := by
  cases he : eqAt s.data.toList with
  | none =>
    have HW := Lib.hid (wordV_none (s := s) (by unfold word; rw [he]))
    have HC := Lib.hid (show cutV s = .tuple #[.string s, .string ⟨#[]⟩, .bool false] by unfold cutV; rw [he])
    clear he
    go_enter Tryd.func15, Tryd.ntmps15
    go_wp2_with fail
    refine (tCut_c s w hs).mono ?_
    rw [HC.out]
    rintro e w1 ⟨rfl, hb⟩
    go_wp2_with fail
    go_ret3
    exact ⟨by rw [HW.out]; rfl, hb⟩
  | some i =>
    have hi := cut_facts he
    cases i with
    | zero =>
      have HW := Lib.hid (wordV_none (s := s) (by unfold word; rw [he]))
      have HC := Lib.hid (show cutV s = .tuple #[.string ⟨#[]⟩, .string (s.extract 1 s.size), .bool true] by
        unfold cutV; rw [he]
        show Value.tuple #[.string (s.extract 0 0), .string (s.extract 1 s.size), .bool true] = _
        rw [show s.extract 0 0 = ⟨#[]⟩ from ByteArray.ext (by simp)])
      clear he
      go_enter Tryd.func15, Tryd.ntmps15
      go_wp2_with fail
      refine (tCut_c s w hs).mono ?_
      rw [HC.out]
      rintro e w1 ⟨rfl, hb⟩
      go_wp2_with fail
      go_ret3
      exact ⟨by rw [HW.out]; rfl, hb⟩
    | succ i =>
      have HW := Lib.hid (wordV_some (s := s) (a := s.extract 0 (i + 1)) (b := s.extract (i + 2) s.size) (by unfold word; rw [he]))
      have HC := Lib.hid (show cutV s = .tuple #[.string (s.extract 0 (i + 1)), .string (s.extract (i + 2) s.size), .bool true] by unfold cutV; rw [he])
      have hn : ((s.extract 0 (i + 1)).toList == []) = false := by rw [toList_nil_iff, ByteArray.size_extract]; exact decide_eq_false (by omega)
      clear he
      generalize s.extract 0 (i + 1) = a at *
      generalize s.extract (i + 2) s.size = b at *
      go_enter Tryd.func15, Tryd.ntmps15
      go_wp2_with fail
      refine (tCut_c s w hs).mono ?_
      rw [HC.out]
      rintro e w1 ⟨rfl, hb⟩
      go_wp2_with fail
      go_ret3
      exact ⟨by rw [HW.out]; rfl, hb⟩

theorem get61 (s : ByteArray) (i : Nat) (h : i < s.size) : s.data.toList[i]? = some 61 ↔ ((s[i]'h).toNat : Int) = 61 := by
  have e : s.data.toList[i]? = some (s[i]'h) := by
    rw [Array.getElem?_toList, Array.getElem?_eq_getElem (show i < s.data.size from h)]
    rfl
  rw [e]
  generalize s[i]'h = x
  constructor
  · intro h; cases h; rfl
  · intro h
    have : x.toNat = 61 := by omega
    exact congrArg some (UInt8.toNat_inj.1 this)
set_option maxHeartbeats 1000000 in
set_option maxRecDepth 100000 in
theorem rWord_c (s : ByteArray) (w : World) (hs : s.size ≤ 1000000) :
    Calls Tryd.prog 16 #[.string s] w fun e w' => e = .returned (wordV s) ∧ Below w.heap.size w w' := by
  go_enter Tryd.func16, Tryd.ntmps16
  go_wp2_with fail
  go_loopw [5] (fun s5 wr => ∃ i : Nat, 1 ≤ i ∧ i ≤ max 1 s.size ∧ s5 = .int .i64 i ∧ Hid (∀ k, 1 ≤ k → k < i → s.data.toList[k]? = some 61 → s.data.toList[0]? = some 61) ∧ Hid (Below w.heap.size w wr)) (fun s5 _ => s.size - (intOf s5).toNat)
  case atStart => exact ⟨1, by omega, by omega, rfl, Lib.hid (fun k h1 h2 => by omega), Lib.hid (Below.refl _ _)⟩
  case round =>
    obtain ⟨i, hi1, hi, rfl, HP, BL⟩ := hrel
    by_cases hlt : i < s.size
    · have h0 : 0 < s.size := by omega
      have E1 := Lib.hid (get61 s i hlt)
      have E0 := Lib.hid (get61 s 0 h0)
      by_cases c1 : (s[i].toNat : Int) = 61
      · by_cases c0 : (s[0].toNat : Int) = 61
        · have f1 : ((s[i].toNat : Int) == 61) = true := beq_iff_eq.2 c1
          have f0 : ((s[0].toNat : Int) != 61) = false := by simp [c0]
          have HP' := Lib.hid (show ∀ k, 1 ≤ k → k < i + 1 → s.data.toList[k]? = some 61 → s.data.toList[0]? = some 61 from fun _ _ _ _ => E0.out.2 c0)
          clear c1 c0
          go_wp2_with fail
          go_roundw
          case rel => exact ⟨i + 1, by omega, by omega, by go_num, HP', BL⟩
          case measure => simp [intOf]; omega
        · have f1 : ((s[i].toNat : Int) == 61) = true := beq_iff_eq.2 c1
          have f0 : ((s[0].toNat : Int) != 61) = true := by simpa using c0
          have HW := Lib.hid (show wordV s = .tuple #[.string (s.extract 0 i), .string (s.extract (i + 1) s.size), .bool true] from by
            obtain ⟨j, rfl⟩ : ∃ j, i = j + 1 := ⟨i - 1, by omega⟩
            refine wordV_some (word_hit (E1.out.2 c1) (fun k hk hq => ?_))
            rcases Nat.eq_zero_or_pos k with rfl | hp
            · exact c0 (E0.out.1 hq)
            · exact c0 (E0.out.1 (HP.out k hp hk hq)))
          have b1 : (0 : Int) ≤ (i : Int) := by omega
          have b2 : (i : Int) ≤ (s.size : Int) := by omega
          have b3 : (0 : Int) ≤ (i : Int) + 1 := by omega
          have b4 : (i : Int) + 1 ≤ (s.size : Int) := by omega
          clear c1 c0
          go_wp2_with fail
          go_region
          go_wp2_with fail
          go_ret3
          exact ⟨by rw [HW.out]; rfl, BL.out.drew⟩
      · have f1 : ((s[i].toNat : Int) == 61) = false := by simpa using c1
        have HP' := Lib.hid (show ∀ k, 1 ≤ k → k < i + 1 → s.data.toList[k]? = some 61 → s.data.toList[0]? = some 61 from fun k h1 h2 hq => by
          rcases Nat.lt_succ_iff_lt_or_eq.1 h2 with hl | rfl
          · exact HP.out k h1 hl hq
          · exact absurd (E1.out.1 hq) c1)
        clear c1
        go_wp2_with fail
        go_roundw
        case rel => exact ⟨i + 1, by omega, by omega, by go_num, HP', BL⟩
        case measure => simp [intOf]; omega
    · have HW := Lib.hid (wordV_none (word_miss (s := s) (fun k h1 hq => by
        by_cases hk : k < i
        · exact HP.out k h1 hk hq
        · rw [List.getElem?_eq_none (by rw [Array.length_toList]; show s.size ≤ k; omega)] at hq; cases hq)))
      go_wp2_with fail
      go_ret3
      exact ⟨by rw [HW.out]; rfl, BL.out⟩
end Go.Proofs.YtapleleaogjcjaaDoor
