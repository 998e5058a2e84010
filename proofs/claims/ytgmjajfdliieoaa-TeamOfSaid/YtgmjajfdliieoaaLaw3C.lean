/- The walk of TeamOf. -/
import Derived.Test.YtgmjajfdliieoaaTeamC
import Derived.Test.YtgmjajfdliieoaaHeld
namespace Go.Proofs.Ytgmjajfdliieoaa
open Go.RowKit

set_option maxHeartbeats 2000000 in
set_option maxRecDepth 100000 in
theorem TeamOf_w (w : World) (A0 : Option Addr) (c0 n0 : Nat) (l0 : List Int) (h0 : Rd w w.heap.size A0 c0 1 n0 (is l0)) :
    Calls Try.prog 3 #[.slice A0 n0 c0] w fun e w' => e = .returned (.bool true) ∧ Below w.heap.size w w' := by
  go_enter Try.func3, Try.ntmps3
  go_wp2_with fail
  refine (begun_c w).mono ?_
  rintro e w1 ⟨rfl, hb1⟩
  go_wp2_with fail
  refine (cut_c w1 _ A0 c0 n0 l0 (h0.past hb1)).mono ?_
  rintro e w2 ⟨A, c, n, l, rfl, rfl, h, hn⟩
  clear h0
  have hlen := h.ilen
  have HL := Lib.hid hlen; clear hlen
  go_wp2_with fail
  refine (Of_c w1 _ A c n l h).mono ?_
  rintro e w' ⟨rfl, rfl⟩
  have ht := PTeam.ofL_lt l
  have h7 := PTeam.cnt_le (PTeam.ofL l)
  go_wp2_with fail
  go_loop [5, 6, 7, 8] (fun s5 s6 _ _ => ∃ k : Nat, k ≤ 11 ∧ s6 = .int .i64 ((k : Int) - 1) ∧ s5 = .int .i64 (PTeam.cntFrom (PTeam.ofL l) k : Nat)) (fun _ s6 _ _ => (10 - intOf s6).toNat)
  case atStart => exact ⟨0, by omega, rfl, rfl⟩
  case round =>
    obtain ⟨k, hk, rfl, rfl⟩ := hrel
    have hcle := PTeam.cntFrom_le (PTeam.ofL l) k
    by_cases hlt : k < 11
    · have hcs := PTeam.cntFrom_succ (PTeam.ofL l) k
      have HC := Lib.hid hcs; clear hcs
      obtain ⟨id, hid⟩ : ∃ id : Int, (k : Int) - 1 = id := ⟨_, rfl⟩
      have hid1 : -1 ≤ id := by omega
      have hid2 : id ≤ 9 := by omega
      have hnx : ((k + 1 : Nat) : Int) - 1 = id + 1 := by omega
      rw [hid] at HC ⊢
      have HI := Lib.hid hid; have HX := Lib.hid hnx; clear hid hnx
      go_wp2_with fail
      go_loop [7, 8] (fun s7 s8 => ∃ i : Nat, i ≤ n ∧ s8 = .int .i64 i ∧ s7 = .bool (PTeam.has (PTeam.ofL (l.take i)) id)) (fun _ s8 => n - (intOf s8).toNat)
      case atStart => exact ⟨0, by omega, rfl, by simp [PTeam.ofL, PTeam.has]⟩
      case round =>
        obtain ⟨i, hi, rfl, rfl⟩ := hrel
        by_cases hlt2 : i < n
        · obtain ⟨b, o, x, rfl, hc, hd, hx⟩ := h.int hlt2
          have hil : i < l.length := by rw [HL.out]; exact hlt2
          have hx' : l.take (i + 1) = l.take i ++ [x] := by
            rw [List.take_succ_eq_append_getElem hil, hx]; simp [List.getD, List.getElem?_eq_getElem hil]
          have hs := PTeam.has_snoc (l.take i) x id
          rw [← hx'] at hs
          have HS := Lib.hid hs; clear hs hx' hd hx
          cases hin : PTeam.has (PTeam.ofL (l.take i)) id
          · rw [hin, Bool.false_or] at HS
            by_cases he : x = id
            · have he1 : (x == id) = true := by simpa using he
              have HE := Lib.hid he; clear he
              by_cases g1 : 1 ≤ id
              · go_wp2_with fail
                go_round
                case rel => exact ⟨i + 1, by omega, by go_num, by rw [HS.out, HE.out]; simp [g1]⟩
                case measure => simp [intOf]; omega
              · go_wp2_with fail
                go_round
                case rel => exact ⟨i + 1, by omega, by go_num, by rw [HS.out, HE.out]; simp [g1]⟩
                case measure => simp [intOf]; omega
            · have he1 : (x == id) = false := by simpa using he
              have HE := Lib.hid he; clear he
              go_wp2_with fail
              go_round
              case rel => exact ⟨i + 1, by omega, by go_num, by rw [HS.out]; simp [HE.out]⟩
              case measure => simp [intOf]; omega
          · rw [hin, Bool.true_or] at HS
            go_wp2_with fail
            go_round
            case rel => exact ⟨i + 1, by omega, by go_num, by rw [HS.out]⟩
            case measure => simp [intOf]; omega
        · obtain rfl : i = n := by omega
          have htk : l.take i = l := List.take_of_length_le (by rw [HL.out]; omega)
          rw [htk]
          clear htk
          cases hh : PTeam.has (PTeam.ofL l) id
          all_goals
            have HH := Lib.hid hh; clear hh
            go_wp2_with fail
            refine (Has_c w1 _ id ht).mono ?_
            rw [HH.out]
            rintro e w' ⟨rfl, rfl⟩
            go_wp2_with fail
            go_round
            case rel => exact ⟨k + 1, by omega, by rw [HX.out], by rw [HC.out, HH.out]; go_num⟩
            case measure => have := HI.out; simp [intOf]; omega
    · obtain rfl : k = 11 := by omega
      have hca := PTeam.cntFrom_all (PTeam.ofL l) ht
      rw [hca]
      clear hca hcle
      go_wp2_with fail
      generalize hT : PTeam.ofL l = t at *
      clear hT
      refine (List_c w1 t ht).mono ?_
      rintro e w2 ⟨A2, c2, rfl, hown, hb2⟩
      have hr := Rd.of_own hown
      have hB2 := hb1.trans (hb2.mono hb1.size)
      clear hown hb2
      go_wp2_with fail
      refine (Len_c w2 t ht).mono ?_
      rintro e w' ⟨rfl, rfl⟩
      have hmem := PTeam.lst_mem t ht
      have hrise := PTeam.lst_rise t ht
      have HM := Lib.hid hmem; have HR := Lib.hid hrise; clear hmem hrise
      have hl2 := hr.ilen
      have HL2 := Lib.hid hl2; clear hl2
      generalize hm : PTeam.cnt t = m at *
      clear hm
      go_wp2_with fail
      go_loopw [10] (fun s10 wr => ∃ k : Nat, k ≤ m ∧ s10 = .int .i64 k ∧ Below w2.heap.size w2 wr) (fun s10 _ => m - (intOf s10).toNat)
      case atStart => exact ⟨0, by omega, rfl, Below.refl _ _⟩
      case round =>
        obtain ⟨k, hk, rfl, hbr⟩ := hrel
        have hsz := hbr.size
        have hrr := (hr.past hbr).more hsz
        by_cases hlt : k < m
        · obtain ⟨b, o, x, rfl, hcx, -, hx⟩ := hrr.int hlt
          have hbl : b < wr.drew.heap.size := World.block_lt_of_cell? wr _ hcx
          have hkl : k < (PTeam.lst t).length := by rw [HL2.out]; exact hlt
          have hxm : PTeam.has t x = true := by
            refine (HM.out x).1 ?_
            rw [hx]; simp [List.getD, List.getElem?_eq_getElem hkl]
          have HX := Lib.hid hxm; clear hxm
          have HXV := Lib.hid hx; clear hx
          rcases k with _ | k
          · go_wp2_with fail
-- REGION curfew/curfewlaw3.TeamOf 25 teamof0 12
            refine Hb.begin ?_
            refine Hb.take (v := .int .i64 (t : Nat)) 0 70 rfl ?_ (fun _ _ => rfl)
            refine Hb.take (v := .slice (some ⟨b, o, none⟩) m c2) 1 71 rfl ?_ (fun _ _ => rfl)
            refine Hb.take (v := .int .i64 ((0 : Nat) : Int)) 2 72 rfl ?_ (fun _ _ => rfl)
            refine Hb.take (v := .pointer (some ⟨b, o, none⟩)) 3 73 rfl ?_ (fun w' hw' => by go_simp; first | done | rfl | omega | exact wrap_in (by omega) (by omega) | exact Int.tmod_eq_emod_of_nonneg (by omega) | exact Int.tdiv_eq_ediv_of_nonneg (by omega) | (simp; omega))
            refine Hb.take (v := .int .i64 x) 4 74 rfl ?_ (fun w' hw' => by have hc := hw'.cell (p := ⟨b, o, none⟩) hbl; rw [show (wr.drew).cell? ⟨b, o, none⟩ = some (.int .i64 x) from hcx] at hc; go_simp)
            refine Hb.call (f := 13) (args := #[.int .i64 (t : Nat), .int .i64 x]) 5 75 rfl ?_ (run_callf Try.func13 (by kernel_rfl) (by kernel_rfl) (by simp only [List.map_toArray, List.map_cons, List.map_nil]; rfl))
            refine (Has_c wr.drew t x ht).mono ?_
            rw [HX.out]
            rintro e w1 ⟨rfl, rfl⟩
            refine Hb.back (Below.refl _ _) (Nat.le_refl _) ?_
            refine Hb.take (v := .bool false) 6 76 rfl ?_ (fun w' hw' => by go_simp; first | done | rfl | omega | exact wrap_in (by omega) (by omega) | exact Int.tmod_eq_emod_of_nonneg (by omega) | exact Int.tdiv_eq_ediv_of_nonneg (by omega) | (simp; omega))
            refine Hb.take (v := .bool false) 7 77 rfl ?_ (fun _ _ => rfl)
            refine Hb.take (v := .int .i64 ((0 : Nat) : Int)) 8 78 rfl ?_ (fun _ _ => rfl)
            refine Hb.take (v := .bool false) 9 79 rfl ?_ (fun w' hw' => by go_simp; first | done | rfl | omega | exact wrap_in (by omega) (by omega) | exact Int.tmod_eq_emod_of_nonneg (by omega) | exact Int.tdiv_eq_ediv_of_nonneg (by omega) | (simp; omega))
            refine Hb.take (v := .bool false) 10 80 rfl ?_ (fun _ _ => rfl)
            refine Hb.pass 11 81 rfl ?_
            refine Hb.pass 12 82 rfl ?_
            refine Hb.pass 13 83 rfl ?_
            refine Hb.pass 14 84 rfl ?_
            refine Hb.pass 15 85 rfl ?_
            refine Hb.pass 16 86 rfl ?_
            refine Hb.pass 17 87 rfl ?_
            refine Hb.pass 18 88 rfl ?_
            refine Hb.pass 19 89 rfl ?_
            refine Hb.pass 20 90 rfl ?_
            refine Hb.take (v := Value.bool false) 21 91 rfl ?_ (fun _ _ => rfl)
            refine Hb.take (v := Value.bool false) 22 92 rfl ?_ (fun _ _ => rfl)
            refine Hb.done ?_
-- END
            go_wp2
            go_roundw
            case rel => exact ⟨1, by omega, by go_num, hbr.drew⟩
            case measure => simp [intOf]; omega
          · obtain ⟨b', o', y, hA, hcy, -, hy⟩ := hrr.int (i := k) (by omega)
            injection hA with hA; injection hA with e1 e2 e3; subst e1 e2
            have hxy : y < x := by rw [HXV.out, hy]; exact HR.out k hlt
            have HY := Lib.hid hy; clear hy
            go_wp2_with fail
-- REGION curfew/curfewlaw3.TeamOf 25 teamof1 12
            refine Hb.begin ?_
            refine Hb.take (v := .int .i64 (t : Nat)) 0 70 rfl ?_ (fun _ _ => rfl)
            refine Hb.take (v := .slice (some ⟨b, o, none⟩) m c2) 1 71 rfl ?_ (fun _ _ => rfl)
            refine Hb.take (v := .int .i64 ((k : Int) + 1)) 2 72 rfl ?_ (fun _ _ => rfl)
            refine Hb.take (v := .pointer (some ⟨b, o + (k + 1), none⟩)) 3 73 rfl ?_ (fun w' hw' => by go_simp; first | done | rfl | omega | exact wrap_in (by omega) (by omega) | exact Int.tmod_eq_emod_of_nonneg (by omega) | exact Int.tdiv_eq_ediv_of_nonneg (by omega) | (simp; omega))
            refine Hb.take (v := .int .i64 x) 4 74 rfl ?_ (fun w' hw' => by have hc := hw'.cell (p := ⟨b, o + (k + 1), none⟩) hbl; rw [show (wr.drew).cell? ⟨b, o + (k + 1), none⟩ = some (.int .i64 x) from hcx] at hc; go_simp)
            refine Hb.call (f := 13) (args := #[.int .i64 (t : Nat), .int .i64 x]) 5 75 rfl ?_ (run_callf Try.func13 (by kernel_rfl) (by kernel_rfl) (by simp only [List.map_toArray, List.map_cons, List.map_nil]; rfl))
            refine (Has_c wr.drew t x ht).mono ?_
            rw [HX.out]
            rintro e w1 ⟨rfl, rfl⟩
            refine Hb.back (Below.refl _ _) (Nat.le_refl _) ?_
            refine Hb.take (v := .bool false) 6 76 rfl ?_ (fun w' hw' => by go_simp; first | done | rfl | omega | exact wrap_in (by omega) (by omega) | exact Int.tmod_eq_emod_of_nonneg (by omega) | exact Int.tdiv_eq_ediv_of_nonneg (by omega) | (simp; omega))
            refine Hb.take (v := .bool false) 7 77 rfl ?_ (fun _ _ => rfl)
            refine Hb.take (v := .int .i64 ((k : Int) + 1)) 8 78 rfl ?_ (fun _ _ => rfl)
            refine Hb.take (v := .bool true) 9 79 rfl ?_ (fun w' hw' => by go_simp; first | done | rfl | omega | exact wrap_in (by omega) (by omega) | exact Int.tmod_eq_emod_of_nonneg (by omega) | exact Int.tdiv_eq_ediv_of_nonneg (by omega) | (simp; omega))
            refine Hb.take (v := .bool true) 10 80 rfl ?_ (fun _ _ => rfl)
            refine Hb.take (v := .slice (some ⟨b, o, none⟩) m c2) 11 81 rfl ?_ (fun _ _ => rfl)
            refine Hb.take (v := .int .i64 ((k : Int) + 1)) 12 82 rfl ?_ (fun _ _ => rfl)
            refine Hb.take (v := .pointer (some ⟨b, o + (k + 1), none⟩)) 13 83 rfl ?_ (fun w' hw' => by go_simp; first | done | rfl | omega | exact wrap_in (by omega) (by omega) | exact Int.tmod_eq_emod_of_nonneg (by omega) | exact Int.tdiv_eq_ediv_of_nonneg (by omega) | (simp; omega))
            refine Hb.take (v := .int .i64 x) 14 84 rfl ?_ (fun w' hw' => by have hc := hw'.cell (p := ⟨b, o + (k + 1), none⟩) hbl; rw [show (wr.drew).cell? ⟨b, o + (k + 1), none⟩ = some (.int .i64 x) from hcx] at hc; go_simp)
            refine Hb.take (v := .slice (some ⟨b, o, none⟩) m c2) 15 85 rfl ?_ (fun _ _ => rfl)
            refine Hb.take (v := .int .i64 ((k : Int) + 1)) 16 86 rfl ?_ (fun _ _ => rfl)
            refine Hb.take (v := .int .i64 (k : Nat)) 17 87 rfl ?_ (fun w' hw' => by go_simp; first | done | rfl | omega | exact wrap_in (by omega) (by omega) | exact Int.tmod_eq_emod_of_nonneg (by omega) | exact Int.tdiv_eq_ediv_of_nonneg (by omega) | (simp; omega))
            refine Hb.take (v := .pointer (some ⟨b, o + k, none⟩)) 18 88 rfl ?_ (fun w' hw' => by go_simp; first | done | rfl | omega | exact wrap_in (by omega) (by omega) | exact Int.tmod_eq_emod_of_nonneg (by omega) | exact Int.tdiv_eq_ediv_of_nonneg (by omega) | (simp; omega))
            refine Hb.take (v := .int .i64 y) 19 89 rfl ?_ (fun w' hw' => by have hc := hw'.cell (p := ⟨b, o + k, none⟩) hbl; rw [show (wr.drew).cell? ⟨b, o + k, none⟩ = some (.int .i64 y) from hcy] at hc; go_simp)
            refine Hb.take (v := .bool false) 20 90 rfl ?_ (fun w' hw' => by go_simp; first | done | rfl | omega | exact wrap_in (by omega) (by omega) | exact Int.tmod_eq_emod_of_nonneg (by omega) | exact Int.tdiv_eq_ediv_of_nonneg (by omega) | (simp; omega))
            refine Hb.take (v := .bool false) 21 91 rfl ?_ (fun _ _ => rfl)
            refine Hb.take (v := .bool false) 22 92 rfl ?_ (fun _ _ => rfl)
            refine Hb.done ?_
-- END
            go_wp2
            go_roundw
            case rel => exact ⟨k + 2, by omega, by go_num, hbr.drew⟩
            case measure => simp [intOf]; omega
        · go_wp2_with fail
          go_ret
          exact ⟨rfl, hB2.trans (hbr.mono hB2.size)⟩

end Go.Proofs.Ytgmjajfdliieoaa
