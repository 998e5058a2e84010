/- Contract of curfewref1's GetText. Short and Cut of the statements. -/
import Derived.Test.YthafdgnpkfphoaaRefNumB
namespace Go.Proofs.Ythafdgnpkfphoaa
open Go.RowKit

set_option maxRecDepth 100000 in
theorem rGetText_c (w : World) (B : Nat) (A : Option Addr) (c n : Nat) (l : List Int) (h : Rd w B A c 1 n (bs l)) (hb : isB l) (hn : n ≤ 1000000000000) :
    Calls Try.prog 18 #[.slice A n c] w fun e w' => e = .returned (tupT (PNum.getT l)) ∧ w = w' := by
  have hlen := h.blen
  have hle := h.le
  have hcap := h.cap
  have HN := Lib.hid hn; clear hn
  have HL := Lib.hid hlen; clear hlen
  have HC := Lib.hid hcap; clear hcap
  have herr := PNum.getB_err l 0 0
  have hok := PNum.getB_ok l 0 0
  obtain ⟨⟨x, k, er⟩, hg⟩ : ∃ r, PNum.getB 0 0 l = r := ⟨_, rfl⟩
  rw [hg] at herr hok
  have HG := Lib.hid hg; clear hg
  by_cases h0 : er = 0
  · subst h0
    obtain ⟨hx1, hx2, hk1, hk2⟩ := hok x k hb (by omega) (by decide) rfl
    clear hok herr
    have hX := Lib.hid (And.intro hx1 hx2); clear hx1 hx2
    rw [HL.out] at hk2
    simp at hk1 hk2
    by_cases hneg : x < 0
    · go_enter Try.func18, Try.ntmps18
      go_wp2_with fail
      refine (rGet_c w B A c n l h hb).mono ?_
      rintro e w' ⟨rfl, rfl⟩
      rw [HG.out]
      simp only [tup3]
      go_wp2
      go_ret3
      refine ⟨?_, rfl⟩
      rw [PNum.getT, HG.out, if_pos rfl, if_pos (.inl hneg)]; rfl
    · by_cases hbig : 65536 < x
      · go_enter Try.func18, Try.ntmps18
        go_wp2_with fail
        refine (rGet_c w B A c n l h hb).mono ?_
        rintro e w' ⟨rfl, rfl⟩
        rw [HG.out]
        simp only [tup3]
        go_wp2
        go_ret3
        refine ⟨?_, rfl⟩
        rw [PNum.getT, HG.out, if_pos rfl, if_pos (.inr hbig)]; rfl
      · by_cases hlong : (n : Int) < k + x
        · have hq : (n : Int) - k < x := by omega
          go_enter Try.func18, Try.ntmps18
          go_wp2_with fail
          refine (rGet_c w B A c n l h hb).mono ?_
          rintro e w' ⟨rfl, rfl⟩
          rw [HG.out]
          simp only [tup3]
          have hn := HN.out
          go_wp2
          go_ret3
          refine ⟨?_, rfl⟩
          rw [PNum.getT, HG.out, if_pos rfl, if_neg (by simp; omega), if_pos (by rw [HL.out]; exact hlong)]; rfl
        · obtain ⟨xn, rfl⟩ := Int.eq_ofNat_of_zero_le (show 0 ≤ x by omega)
          obtain ⟨kn, rfl⟩ := Int.eq_ofNat_of_zero_le (show 0 ≤ k by omega)
          have hn := HN.out
          go_enter Try.func18, Try.ntmps18
          go_wp2_with fail
          refine (rGet_c w B A c n l h hb).mono ?_
          rintro e w' ⟨rfl, rfl⟩
          rw [HG.out]
          simp only [tup3]
          go_wp2_with (with_reducible show wpList _ _ _ ((⟨some 34, Op.slice 22 _ _ _ _, _, _, _, _⟩ : Oper) :: _) _ _
                       go_must (refine wpList_cut rfl 22 (.tmp 29) _ _ rfl 5 _ 1 1 Try.underlying22 byte_info B A c n (bs l) rfl h kn (kn + xn) (.inr rfl) (.inr rfl) (by omega) (by omega) ?_))
          intro A' c' hr'
          have e1 : kn + xn - kn = xn := by omega
          try rw [e1] at hr'
          try rw [e1]
          simp only [← bs_drop, ← bs_take] at hr'
          refine wpList_toStr rfl 22 9 (.tmp 34) rfl 5 Try.underlying22 Try.underlying5 Try.underlying9 B A' c' xn _ rfl hr' ?_
          go_wp2
          go_ret3
          refine ⟨?_, rfl⟩
          rw [PNum.getT, HG.out, if_pos rfl, if_neg (by simp; omega), if_neg (by rw [HL.out]; show ¬ (n : Int) < (kn : Int) + (xn : Int); omega)]; rfl
  · go_enter Try.func18, Try.ntmps18
    go_wp2_with fail
    refine (rGet_c w B A c n l h hb).mono ?_
    rintro e w' ⟨rfl, rfl⟩
    rw [HG.out]
    simp only [tup3]
    have e0 : (er == 0) = false := by simp; omega
    go_wp2
    go_ret3
    refine ⟨?_, rfl⟩
    rw [PNum.getT, HG.out, if_neg h0]; rfl

theorem Short_c (w : World) (B : Nat) (A : Option Addr) (c n : Nat) (l : List Int) (k : Int) (h : Rd w B A c 1 n (bs l)) (h0 : 0 ≤ k) :
    Calls Try.prog 9 #[.slice A n c, .int .i64 k] w fun e w' => ∃ A' c', e = .returned (.slice A' (min n k.toNat) c') ∧ w = w' ∧ Rd w B A' c' 1 (min n k.toNat) (bs (l.take k.toNat)) := by
  obtain ⟨m, rfl⟩ := Int.eq_ofNat_of_zero_le h0
  have hl := h.blen
  have HL := Lib.hid hl; clear hl
  by_cases hlt : m < n
  · go_enter Try.func9, Try.ntmps9
    go_wp2_with (with_reducible show wpList _ _ _ ((⟨some 11, Op.slice 22 _ _ _ _, _, _, _, _⟩ : Oper) :: _) _ _
                 go_must (refine wpList_cut rfl 22 (.tmp 9) _ _ rfl 5 _ 1 1 Try.underlying22 byte_info B A c n (bs l) rfl h 0 m (.inl ⟨rfl, rfl⟩) (.inr rfl) (by omega) (by omega) ?_))
    intro A' c' hr
    go_wp2
    go_ret
    rw [← bs_take] at hr
    have e : min n m = m := by omega
    refine ⟨A', c', ?_, rfl, ?_⟩
    · rw [Int.toNat_natCast, e]; rfl
    · rw [Int.toNat_natCast, e]; exact hr
  · go_enter Try.func9, Try.ntmps9
    go_wp2
    go_ret
    have e : min n m = n := by omega
    refine ⟨A, c, ?_, rfl, ?_⟩
    · rw [Int.toNat_natCast, e]; rfl
    · rw [Int.toNat_natCast, e, List.take_of_length_le (by rw [HL.out]; omega)]; exact h

theorem Cut_c (w : World) (s : ByteArray) (k : Int) (h0 : 0 ≤ k) :
    Calls Try.prog 10 #[.string s, .int .i64 k] w fun e w' => ∃ t : ByteArray, e = .returned (.string t) ∧ w = w' ∧ (t.size : Int) ≤ k ∧ t.size ≤ s.size := by
  obtain ⟨m, rfl⟩ := Int.eq_ofNat_of_zero_le h0
  by_cases hlt : m < s.size
  · go_enter Try.func10, Try.ntmps10
    go_wp2
    go_ret
    exact ⟨_, rfl, rfl, by simp; omega, by simp; omega⟩
  · go_enter Try.func10, Try.ntmps10
    go_wp2
    go_ret
    exact ⟨s, rfl, rfl, by omega, by omega⟩

end Go.Proofs.Ythafdgnpkfphoaa
