/- Contract of num.GetText. -/
import Derived.Test.YtoflbgmmnljloaaNumC
namespace Go.Proofs.Ytoflbgmmnljloaa
open Go.RowKit

/-- A text, how many bytes, an error, as Go hands them back. -/
def tupT (r : List Int × Int × Int) : Value := .tuple #[.string (strOfNums r.1), .int .i64 r.2.1, .int .i64 r.2.2]
theorem str_nil : strOfNums [] = ⟨#[]⟩ := rfl

set_option maxRecDepth 100000 in
theorem GetText_c (w : World) (B : Nat) (A : Option Addr) (c n : Nat) (l : List Int) (h : Rd w B A c 1 n (bs l)) (hb : isB l) (hn : n ≤ 1000000000000) :
    Calls Try.prog 34 #[.slice A n c] w fun e w' => e = .returned (tupT (PNum.getT l)) ∧ w = w' := by
  have hlen := h.blen
  have hle := h.le
  have hcap := h.cap
  have HN := Lib.hid hn; clear hn
  have HL := Lib.hid hlen; clear hlen
  have HC := Lib.hid hcap; clear hcap
  have herr := PNum.getB_err l 0 0
  have hok := PNum.getB_ok l 0 0
  obtain ⟨⟨x, k, er⟩, hg⟩ : ∃ r, PNum.getB 0 0 l = r := ⟨_, rfl⟩
  rw [hg] at herr hok
  have HG := Lib.hid hg; clear hg
  by_cases h0 : er = 0
  · subst h0
    obtain ⟨hx1, hx2, hk1, hk2⟩ := hok x k hb (by omega) (by decide) rfl
    clear hok herr
    have hX := Lib.hid (And.intro hx1 hx2); clear hx1 hx2
    rw [HL.out] at hk2
    simp at hk1 hk2
    by_cases hneg : x < 0
    · go_enter Try.func34, Try.ntmps34
      go_wp2_with fail
      refine (Get_c w B A c n l h hb).mono ?_
      rintro e w' ⟨rfl, rfl⟩
      rw [HG.out]
      simp only [tup3]
      go_wp2
      go_ret3
      refine ⟨?_, rfl⟩
      rw [PNum.getT, HG.out, if_pos rfl, if_pos (.inl hneg)]; rfl
    · by_cases hbig : 65536 < x
      · go_enter Try.func34, Try.ntmps34
        go_wp2_with fail
        refine (Get_c w B A c n l h hb).mono ?_
        rintro e w' ⟨rfl, rfl⟩
        rw [HG.out]
        simp only [tup3]
        go_wp2
        go_ret3
        refine ⟨?_, rfl⟩
        rw [PNum.getT, HG.out, if_pos rfl, if_pos (.inr hbig)]; rfl
      · by_cases hlong : (n : Int) < k + x
        · go_enter Try.func34, Try.ntmps34
          go_wp2_with fail
          refine (Get_c w B A c n l h hb).mono ?_
          rintro e w' ⟨rfl, rfl⟩
          rw [HG.out]
          simp only [tup3]
          have hn := HN.out
          go_wp2
          go_ret3
          refine ⟨?_, rfl⟩
          rw [PNum.getT, HG.out, if_pos rfl, if_neg (by simp; omega), if_pos (by rw [HL.out]; exact hlong)]; rfl
        · obtain ⟨xn, rfl⟩ := Int.eq_ofNat_of_zero_le (show 0 ≤ x by omega)
          obtain ⟨kn, rfl⟩ := Int.eq_ofNat_of_zero_le (show 0 ≤ k by omega)
          have hn := HN.out
          go_enter Try.func34, Try.ntmps34
          go_wp2_with fail
          refine (Get_c w B A c n l h hb).mono ?_
          rintro e w' ⟨rfl, rfl⟩
          rw [HG.out]
          simp only [tup3]
          go_wp2_with (with_reducible show wpList _ _ _ ((⟨some 34, Op.slice 30 _ _ _ _, _, _, _, _⟩ : Oper) :: _) _ _
                       go_must (refine wpList_cut rfl 30 (.tmp 31) _ _ rfl 5 _ 1 1 Try.underlying30 byte_info B A c n (bs l) rfl h kn (kn + xn) (.inr rfl) (.inr rfl) (by omega) (by omega) ?_))
          intro A' c' hr'
          have e1 : kn + xn - kn = xn := by omega
          try rw [e1] at hr'
          try rw [e1]
          simp only [← bs_drop, ← bs_take] at hr'
          refine wpList_toStr rfl 30 9 (.tmp 34) rfl 5 Try.underlying30 Try.underlying5 Try.underlying9 B A' c' xn _ rfl hr' ?_
          go_wp2
          go_ret3
          refine ⟨?_, rfl⟩
          rw [PNum.getT, HG.out, if_pos rfl, if_neg (by simp; omega), if_neg (by rw [HL.out]; show ¬ (n : Int) < (kn : Int) + (xn : Int); omega)]; rfl
  · go_enter Try.func34, Try.ntmps34
    go_wp2_with fail
    refine (Get_c w B A c n l h hb).mono ?_
    rintro e w' ⟨rfl, rfl⟩
    rw [HG.out]
    simp only [tup3]
    have e0 : (er == 0) = false := by simp; omega
    go_wp2
    go_ret3
    refine ⟨?_, rfl⟩
    rw [PNum.getT, HG.out, if_neg h0]; rfl

end Go.Proofs.Ytoflbgmmnljloaa
