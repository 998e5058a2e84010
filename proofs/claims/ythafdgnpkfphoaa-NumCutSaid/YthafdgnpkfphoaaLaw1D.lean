/- The walk of NumCut. -/
import Derived.Test.YthafdgnpkfphoaaLaw1A
import Derived.Test.YthafdgnpkfphoaaPlainNumB
import Derived.Test.YthafdgnpkfphoaaKit2
namespace Go.Proofs.Ythafdgnpkfphoaa
open Go.RowKit

set_option maxRecDepth 100000 in
theorem NumCut_w (w : World) (x : Int) (s : ByteArray) (cut : Int) (hx1 : -9223372036854775808 ≤ x) (hx2 : x ≤ 9223372036854775807) (hc2 : cut ≤ 9223372036854775807) :
    Calls Try.prog 7 #[.int .i64 x, .string s, .int .i64 cut] w fun e w' => e = .returned (.bool true) ∧ Below w.heap.size w w' := by
  have HX := Lib.hid (And.intro hx1 hx2); clear hx1 hx2
  go_enter Try.func7, Try.ntmps7
  go_wp2_with fail
  refine (begun_c w).mono ?_
  rintro e w1 ⟨rfl, hb1⟩
  go_wp2_with fail
  refine (Cut_c w1 s 100 (by omega)).mono ?_
  rintro e w2 ⟨t, rfl, rfl, ht, hts⟩
  clear hts
  go_wp2_with fail
  refine (Put_c w1 0 none 0 0 [] x (Rd.nil _ 0 1) (by omega) HX.out.1 HX.out.2).mono ?_
  rintro e w2 ⟨A1, c1, rfl, hown1, hb2⟩
  have hz := PNum.zig_lt x HX.out.1 HX.out.2
  have hl1 := PNum.sev_ten _ hz
  have cutB : ∀ j, j < (PNum.sev (PNum.zig x)).length → PNum.getB 0 0 ((PNum.sev (PNum.zig x)).take j) = (0, 0, 2) := fun j hj => PNum.getB_cut 10 _ 0 0 j hl1 (by omega) hj
  have hB1 : isB (PNum.sev (PNum.zig x)) := isB_sev _
  have hr1 : Rd w2 w2.heap.size A1 c1 1 (0 + (PNum.sev (PNum.zig x)).length) (bs (PNum.sev (PNum.zig x))) := Rd.of_own hown1
  clear hown1 hz
  generalize PNum.sev (PNum.zig x) = b at *
  have CB := Lib.hid cutB; clear cutB
  obtain ⟨n1, hn1⟩ : ∃ n, b.length = n := ⟨_, rfl⟩
  rw [hn1, Nat.zero_add] at hr1
  rw [hn1, Nat.zero_add]
  rw [hn1] at CB hl1
  clear hn1
  go_wp2_with fail
  refine (PutText_c w2 0 none 0 0 [] t (Rd.nil _ 0 1) (by omega) (by omega)).mono ?_
  rintro e w3 ⟨A2, c2, rfl, hown2, hb3⟩
  have hz : PNum.zig (t.size : Int) < 18446744073709551616 := PNum.zig_lt _ (by omega) (by omega)
  have hl2 := PNum.sev_ten _ hz
  have cutT : ∀ j, j < (PNum.sev (PNum.zig t.size)).length + t.size → PNum.getT ((PNum.sev (PNum.zig t.size) ++ sb t).take j) = ([], 0, 2) := fun j hj => PNum.getT_cut t.size j (sb t) (sb_length t) (by omega) hj
  have hB2 : isB (PNum.sev (PNum.zig t.size) ++ sb t) := (isB_sev _).append (sb_isB t)
  have hr2 : Rd w3 w3.heap.size A2 c2 1 (0 + (PNum.sev (PNum.zig t.size)).length + t.size) (bs (PNum.sev (PNum.zig t.size) ++ sb t)) := Rd.of_own hown2
  have hr1' := (hr1.past hb3).more hb3.size
  clear hown2 hz hr1
  generalize PNum.sev (PNum.zig t.size) ++ sb t = d at *
  have CT := Lib.hid cutT; clear cutT
  obtain ⟨n2, hn2⟩ : ∃ n, (PNum.sev (PNum.zig t.size)).length + t.size = n := ⟨_, rfl⟩
  rw [Nat.zero_add, hn2] at hr2
  rw [Nat.zero_add, hn2]
  have hn2' : n2 ≤ 110 := by omega
  rw [hn2] at CT
  clear hn2 hl2
  have hsz2 := hb2.size
  have hsz1 := hb1.size
  have hBel : Below w.heap.size w w3 := (hb1.trans (hb2.mono hsz1)).trans (hb3.mono (by omega))
  clear hb1 hb2 hb3
  have h1 : (PNum.sev 0).length = 1 := by rw [PNum.sev_lo (by omega)]; rfl
  clear h1
  by_cases hc : cut < 1
  · go_wp2_with fail
    go_ret
    exact ⟨rfl, hBel⟩
  · obtain ⟨k, rfl⟩ := Int.eq_ofNat_of_zero_le (show 0 ≤ cut by omega)
    by_cases hk1 : k ≤ n1
    · have gB := CB.out (n1 - k) (by omega)
      have GB := Lib.hid gB; clear gB
      go_wp2_with (with_reducible show wpList _ _ _ ((⟨some 37, Op.slice 22 _ _ _ _, _, _, _, _⟩ : Oper) :: _) _ _
                   go_must (refine wpList_cutI rfl 22 (.tmp 32) _ _ rfl 5 _ 1 1 Try.underlying22 byte_info _ A1 c1 n1 (bs b) rfl hr1' 0 (n1 - k) 0 _ (.inl ⟨rfl, rfl⟩) (.inr ⟨rfl, by omega⟩) (by omega) (by omega) ?_))
      intro A3 c3 hr3
      rw [← bs_take] at hr3
      go_wp2_with fail
      refine (Get_c w3 _ A3 c3 (n1 - k) _ hr3 (hB1.take _)).mono ?_
      rintro e w4 ⟨rfl, rfl⟩
      rw [GB.out]
      simp only [tup3]
      clear hr3
      by_cases hk2 : k ≤ n2
      · have gT := CT.out (n2 - k) (by omega)
        have GT := Lib.hid gT; clear gT
        go_wp2_with (with_reducible show wpList _ _ _ ((⟨some 62, Op.slice 22 _ _ _ _, _, _, _, _⟩ : Oper) :: _) _ _
                     go_must (refine wpList_cutI rfl 22 (.tmp 57) _ _ rfl 5 _ 1 1 Try.underlying22 byte_info _ A2 c2 n2 (bs d) rfl hr2 0 (n2 - k) 0 _ (.inl ⟨rfl, rfl⟩) (.inr ⟨rfl, by omega⟩) (by omega) (by omega) ?_))
        intro A4 c4 hr4
        rw [← bs_take] at hr4
        go_wp2_with fail
        refine (GetText_c w3 _ A4 c4 (n2 - k) _ hr4 (hB2.take _) (by omega)).mono ?_
        rintro e w4 ⟨rfl, rfl⟩
        rw [GT.out]
        simp only [tupT]
        have q0 : strOfNums [] = ⟨#[]⟩ := rfl
        go_wp2_with fail
        go_ret
        exact ⟨rfl, hBel⟩
      · go_wp2_with fail
        go_ret
        exact ⟨rfl, hBel⟩
    · by_cases hk2 : k ≤ n2
      · have gT := CT.out (n2 - k) (by omega)
        have GT := Lib.hid gT; clear gT
        go_wp2_with (with_reducible show wpList _ _ _ ((⟨some 62, Op.slice 22 _ _ _ _, _, _, _, _⟩ : Oper) :: _) _ _
                     go_must (refine wpList_cutI rfl 22 (.tmp 57) _ _ rfl 5 _ 1 1 Try.underlying22 byte_info _ A2 c2 n2 (bs d) rfl hr2 0 (n2 - k) 0 _ (.inl ⟨rfl, rfl⟩) (.inr ⟨rfl, by omega⟩) (by omega) (by omega) ?_))
        intro A4 c4 hr4
        rw [← bs_take] at hr4
        go_wp2_with fail
        refine (GetText_c w3 _ A4 c4 (n2 - k) _ hr4 (hB2.take _) (by omega)).mono ?_
        rintro e w4 ⟨rfl, rfl⟩
        rw [GT.out]
        simp only [tupT]
        have q0 : strOfNums [] = ⟨#[]⟩ := rfl
        go_wp2_with fail
        go_ret
        exact ⟨rfl, hBel⟩
      · go_wp2_with fail
        go_ret
        exact ⟨rfl, hBel⟩

end Go.Proofs.Ythafdgnpkfphoaa
