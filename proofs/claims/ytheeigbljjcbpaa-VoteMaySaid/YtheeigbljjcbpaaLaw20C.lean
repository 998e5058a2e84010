/- The walk of VoteMay. -/
import Derived.Test.YtheeigbljjcbpaaVoteK
import Derived.Test.YtheeigbljjcbpaaVoteL
import Derived.Test.YtheeigbljjcbpaaLaw20B
import Derived.Deep.CutRange
import Derived.Deep.MidRow
namespace Go.Proofs.Ytheeigbljjcbpaa
open Go.RowKit PVote


set_option maxHeartbeats 8000000 in
set_option maxRecDepth 100000 in
theorem VoteMay_good (w : World) (view last fr n com : Int) (k : Nat) (hvn : VN view n) (hv40 : view ≤ 1099511627776) (hk : k ≤ 20) :
    Calls Try.prog 8 #[.int .i64 view, .int .i64 last, .int .i64 fr, .int .i64 n, .int .i64 k, .int .i64 com] w fun e w' => e = .returned (.bool true) ∧ Below w.heap.size w w' := by
  obtain ⟨hv1, hv2, hn3, hn7⟩ := hvn
  have HVN := Lib.hid (show VN view n from ⟨hv1, hv2, hn3, hn7⟩)
  have HLL := Lib.hid (lgL_len k)
  obtain ⟨v, hv⟩ : ∃ v : Vt, v = ⟨fr, last, lgL k, com⟩ := ⟨_, rfl⟩
  obtain ⟨gd, hgd⟩ : ∃ gd, ok view n none7 v = gd := ⟨_, rfl⟩
  have HGD := Lib.hid (show gd = (decide (1 ≤ fr ∧ fr ≤ n) && decide (0 ≤ last ∧ last < view) && decide (0 ≤ com ∧ com ≤ k)) by
    have := may_ok (view := view) (n := n) (v := v) (by rw [hv]; exact lgL_log hk)
    rw [← hgd, this, hv]
    show (_ && _ && decide (0 ≤ com ∧ com ≤ ((lgL k).length : Int))) = _
    rw [lgL_len])
  obtain ⟨y, hy⟩ : ∃ y, bits .and .i64 fr 1 = y := ⟨_, rfl⟩
  have hy0 : 0 ≤ y := by rw [← hy, bits_and1]; omega
  have hy1 : y ≤ 1 := by rw [← hy, bits_and1]; omega
  have HV := Lib.hid hv
  have HG := Lib.hid hgd
  have k20 : (k : Int) ≤ 20 := by omega
  clear hv hgd
  go_enter Try.func8, Try.ntmps8
  go_wp2_with fail
  refine (begunV_c w).mono ?_
  rintro e w1 ⟨rfl, b1⟩
  have B1 := Lib.hid b1
  clear b1
  go_wp2_with fail
  refine (vnew_yes w1 view n HVN.out).mono ?_
  rintro e w2 ⟨rfl, h2, b2⟩
  have V2 := Lib.hid (Sv.new B1.out HVN.out h2 b2)
  clear h2 b2 B1
  generalize w1.heap.size = g at V2 ⊢
  go_upto_region 7 with fail
  go_cut [15] from 48 to 72 (fun s15 wx => s15 = .bool gd ∧ wx = w2)
  case first =>
    have h' : fr < 1 ∨ (1 ≤ fr ∧ (n < fr ∨ (fr ≤ n ∧ (last < 0 ∨ (0 ≤ last ∧ (view ≤ last ∨ (last < view ∧ (com < 0 ∨ (0 ≤ com ∧ ((k : Int) < com ∨ com ≤ k))))))))) ) := by omega
    rcases h' with c | ⟨c1, c | ⟨c2, c | ⟨c3, c | ⟨c4, c | ⟨c5, c | c⟩⟩⟩⟩⟩
    · go_wp2_with fail
      go_meet
      case rel => exact ⟨by rw [HGD.out, decide_eq_false (show ¬ (1 ≤ fr ∧ fr ≤ n) by omega)]; rfl, rfl⟩
    · go_wp2_with fail
      go_meet
      case rel => exact ⟨by rw [HGD.out, decide_eq_false (show ¬ (1 ≤ fr ∧ fr ≤ n) by omega)]; rfl, rfl⟩
    · go_wp2_with fail
      go_meet
      case rel => exact ⟨by rw [HGD.out, decide_eq_false (show ¬ (0 ≤ last ∧ last < view) by omega)]; first | (simp; done) | (simp; omega), rfl⟩
    · go_wp2_with fail
      go_meet
      case rel => exact ⟨by rw [HGD.out, decide_eq_false (show ¬ (0 ≤ last ∧ last < view) by omega)]; first | (simp; done) | (simp; omega), rfl⟩
    · go_wp2_with fail
      go_meet
      case rel => exact ⟨by rw [HGD.out, decide_eq_false (show ¬ (0 ≤ com ∧ com ≤ (k : Int)) by omega)]; first | (simp; done) | (simp; omega), rfl⟩
    · go_wp2_with fail
      go_meet
      case rel => exact ⟨by rw [HGD.out, decide_eq_false (show ¬ (0 ≤ com ∧ com ≤ (k : Int)) by omega)]; first | (simp; done) | (simp; omega), rfl⟩
    · go_wp2_with fail
      go_meet
      case rel => exact ⟨by rw [HGD.out, decide_eq_true (show (1 ≤ fr ∧ fr ≤ n) by omega), decide_eq_true (show (0 ≤ last ∧ last < view) by omega), decide_eq_true (show (0 ≤ com ∧ com ≤ (k : Int)) by omega)]; rfl, rfl⟩
  case rest =>
    obtain ⟨rfl, rfl⟩ := hcut
    go_wp2_with fail
    refine (logOf_c _ k hk).mono ?_
    rintro e w3 ⟨LA, LC, rfl, lo, b3⟩
    have V3 := Lib.hid (V2.out.past b3)
    have R3 := Lib.hid (show Rd w3 w3.heap.size LA LC 7 v.es.length (els v.es) by rw [HV.out]; show Rd _ _ _ _ _ (lgL k).length _; rw [lgL_len]; exact lo.rd)
    clear b3 lo V2
    have hA := V3.out.add v LA LC R3.out
    rw [show vv v LA LC = .agg #[.int .i64 fr, .int .i64 last, .slice LA k LC, .int .i64 com] by rw [HV.out]; unfold vv; rw [HLL.out]] at hA
    have HA := Lib.hid hA
    clear hA
    go_wp2_with fail
    refine HA.out.mono ?_
    clear HA
    rw [HG.out]
    rintro e w4 ⟨rfl, F4, v4, -, -⟩
    have V4 := Lib.hid v4
    clear v4 V3 R3
    go_wp2_with fail
    refine (logOf_c _ k hk).mono ?_
    rintro e w5 ⟨MA, MC, rfl, lo, b5⟩
    have V5 := Lib.hid (V4.out.past b5)
    have R5 := Lib.hid (show Rd w5 w5.heap.size MA MC 7 v.es.length (els v.es) by rw [HV.out]; show Rd _ _ _ _ _ (lgL k).length _; rw [lgL_len]; exact lo.rd)
    clear b5 lo V4
    have hA := V5.out.add v MA MC R5.out
    rw [show vv v MA MC = .agg #[.int .i64 fr, .int .i64 last, .slice MA k MC, .int .i64 com] by rw [HV.out]; unfold vv; rw [HLL.out]] at hA
    have HA := Lib.hid hA
    clear hA
    go_wp2_with fail
    refine HA.out.mono ?_
    clear HA
    rw [may_again hn7, add_no (may_again hn7)]
    rintro e w6 ⟨rfl, F6, v6, -, -⟩
    have V6 := Lib.hid v6
    clear v6 V5 R5
    go_wp2_with fail
    refine (logOf_c _ 2 (by omega)).mono ?_
    rintro e w7 ⟨NA, NC, rfl, lo, b7⟩
    have V7 := Lib.hid (V6.out.past b7)
    obtain ⟨gn, rfl, gl, gh⟩ := lo.some (by omega)
    have O7 := Lib.hid lo
    have LE0 := Lib.hid (show w7.rangeAt gn 0 [.int .i64 1, .int .i64 1, .int .i64 1, .int .i64 0, .int .i64 0, .int .i64 0, .string ⟨#[]⟩] from fun j u hu => by
      have := (lo.cell rfl (i := j) (u := u) (by
        have h7 : j < 7 := (List.getElem?_eq_some_iff.1 hu).1
        rw [show els (lgL 2) = ecs (lgE 0) ++ ecs (lgE 1) from rfl, List.getElem?_append_left h7]; exact hu)).1
      rw [Nat.zero_add]; exact this)
    obtain ⟨ys, hys⟩ := lo.blk rfl
    have NB := Lib.hid (show gn ∉ F6 from fun hm => by have := V6.out.vs.hi gn hm; omega)
    have G0 := Lib.hid (show w.heap.size ≤ gn from Nat.le_trans V6.out.bel.size gl)
    clear V6 hys ys
    have TH := Lib.hid (show w7.there gn 7 7 from fun j hj => by
      have h : (els (lgL 2))[7 + j]? = some ((els (lgL 2))[7 + j]'(by show 7 + j < 14; omega)) := List.getElem?_eq_getElem _
      exact ⟨by rw [(lo.cell rfl h).1]; rfl, (lo.cell rfl h).2⟩)
    clear lo b7 gl
    go_wp2_with (first | ((with_reducible show wpList _ _ _ ((⟨some 93, Op.load _ _, _, _, _, _⟩ : Oper) :: _) _ _); go_must (refine wpList_load_mid rfl 52 (.tmp 92) rfl gn (0) rfl ([.int .i64 1, .int .i64 1, .int .i64 1, .int .i64 0, .int .i64 0, .int .i64 0, .string ⟨#[]⟩]) _ LE0.out Try.underlying52 rfl (by kernel_rfl) ?_)) | ((with_reducible show wpList _ _ _ ((⟨none, Op.store 52 (.tmp 94) _, _, _, _, _⟩ : Oper) :: _) _ _); go_must (refine wpList_store_mid rfl 52 (.tmp 94) (.tmp 93) rfl gn 7 #[.int .i64 1, .int .i64 1, .int .i64 1, .int .i64 0, .int .i64 0, .int .i64 0, .string ⟨#[]⟩] rfl rfl TH.out (by kernel_rfl) (by kernel_rfl) ?_)))
    have T8 : Touch [gn] w7 (w7.setCells gn 7 [.int .i64 1, .int .i64 1, .int .i64 1, .int .i64 0, .int .i64 0, .int .i64 0, .string ⟨#[]⟩]) := ((((((((Touch.refl [gn] w7).cell (List.mem_singleton.2 rfl) 7 (.int .i64 1)).cell (List.mem_singleton.2 rfl) 8 (.int .i64 1)).cell (List.mem_singleton.2 rfl) 9 (.int .i64 1)).cell (List.mem_singleton.2 rfl) 10 (.int .i64 0)).cell (List.mem_singleton.2 rfl) 11 (.int .i64 0)).cell (List.mem_singleton.2 rfl) 12 (.int .i64 0)).cell (List.mem_singleton.2 rfl) 13 (.string ⟨#[]⟩))
    have O8 : Ow (w7.setCells gn 7 [.int .i64 1, .int .i64 1, .int .i64 1, .int .i64 0, .int .i64 0, .int .i64 0, .string ⟨#[]⟩]) w6.heap.size 52 7 (some ⟨gn, 0, none⟩) 2 NC (els [lgE 0, lgE 0]) := (Ow.set (Ow.set (Ow.set (Ow.set (Ow.set (Ow.set (Ow.set O7.out rfl (i := 7) (by first | decide | (simp only [List.length_set]; decide)) (.int .i64 1)) rfl (i := 8) (by first | decide | (simp only [List.length_set]; decide)) (.int .i64 1)) rfl (i := 9) (by first | decide | (simp only [List.length_set]; decide)) (.int .i64 1)) rfl (i := 10) (by first | decide | (simp only [List.length_set]; decide)) (.int .i64 0)) rfl (i := 11) (by first | decide | (simp only [List.length_set]; decide)) (.int .i64 0)) rfl (i := 12) (by first | decide | (simp only [List.length_set]; decide)) (.int .i64 0)) rfl (i := 13) (by first | decide | (simp only [List.length_set]; decide)) (.string ⟨#[]⟩))
    have V8 := Lib.hid (V7.out.far T8 (fun q hq => by rw [List.mem_singleton.1 hq]; exact G0.out) (fun q hq => by rw [List.mem_singleton.1 hq]; exact NB.out))
    have R8 := Lib.hid O8.rd
    clear T8 O8 V7 O7
    generalize (w7.setCells gn 7 [.int .i64 1, .int .i64 1, .int .i64 1, .int .i64 0, .int .i64 0, .int .i64 0, .string ⟨#[]⟩]) = w8 at *
    have HA := Lib.hid (V8.out.add ⟨1 + y, 0, [lgE 0, lgE 0], 0⟩ (some ⟨gn, 0, none⟩) NC R8.out)
    have N8 := Lib.hid (show ok view n (add view n none7 v) ⟨1 + y, 0, [lgE 0, lgE 0], 0⟩ = false from may_log lgL_twice)
    go_wp2_with fail
    refine (show Calls _ _ #[_, vv ⟨1 + y, 0, [lgE 0, lgE 0], 0⟩ (some ⟨gn, 0, none⟩) NC] w8 _ from HA.out).mono ?_
    rw [N8.out, add_no N8.out]
    rintro e w9 ⟨rfl, F9, v9, -, -⟩
    have V9 := Lib.hid v9
    clear v9 V8 R8 HA N8
    have HT := Lib.hid (show PTeam.has (tm (add view n none7 v)) fr = gd by have := may_team (view := view) (n := n) (v := v) hn7; rw [HG.out] at this; rw [← this, HV.out])
    have hgg : (gd == gd) = true := by simp
    go_wp2_with fail
    refine (vteam_c w9 g F9 view n _ V9.out.vs).mono ?_
    rintro e w10 ⟨rfl, rfl⟩
    go_wp2_with fail
    refine (tHas_c w9 _ fr (tm_lt _)).mono ?_
    rw [HT.out]
    rintro e w10 ⟨rfl, rfl⟩
    go_wp2_with fail
    go_ret
    exact ⟨by simp, V9.out.bel⟩

theorem VoteMay_w (w : World) (view last fr n hv com : Int) : Calls Try.prog 8 #[.int .i64 view, .int .i64 last, .int .i64 fr, .int .i64 n, .int .i64 hv, .int .i64 com] w fun e w' => e = .returned (.bool true) ∧ Below w.heap.size w w' := by
  by_cases h : view < 1 ∨ 1099511627776 < view ∨ n < 3 ∨ 7 < n ∨ hv < 0 ∨ 20 < hv
  · exact VoteMay_bad w view last fr n hv com h
  · obtain ⟨k, rfl⟩ : ∃ k : Nat, hv = k := ⟨hv.toNat, by omega⟩
    exact VoteMay_good w view last fr n com k (by unfold VN; omega) (by omega) (by omega)
end Go.Proofs.Ytheeigbljjcbpaa
