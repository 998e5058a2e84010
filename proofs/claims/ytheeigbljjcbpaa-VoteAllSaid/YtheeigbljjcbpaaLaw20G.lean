/- The walk of VoteAll. -/
import Derived.Test.YtheeigbljjcbpaaVoteK
import Derived.Test.YtheeigbljjcbpaaVoteL
import Derived.Test.YtheeigbljjcbpaaVoteO
import Derived.Test.YtheeigbljjcbpaaVoteT
import Derived.Test.YtheeigbljjcbpaaEntR
import Derived.Deep.CutRange
namespace Go.Proofs.Ytheeigbljjcbpaa
open Go.RowKit PVote

set_option maxHeartbeats 8000000 in
set_option maxRecDepth 100000 in
theorem VoteAll_bad (w : World) (view n : Int) (v1 : -9223372036854775808 ≤ view) (v2 : view ≤ 9223372036854775807) (A : Option Addr) (c m : Nat) (h : view < 1 ∨ n < 3 ∨ 7 < n) :
    Calls Try.prog 3 #[.int .i64 view, .int .i64 n, .slice A m c] w fun e w' => e = .returned (.bool true) ∧ Below w.heap.size w w' := by
  have HBG := Lib.hid (begunV_c w)
  have HN := Lib.hid (fun w1 => vnew_no w1 view n v1 v2 h)
  have h' : view < 1 ∨ (1 ≤ view ∧ (n < 3 ∨ (3 ≤ n ∧ 7 < n))) := by omega
  clear h
  rcases h' with c | ⟨c1, c | ⟨c2, c⟩⟩
  all_goals
    go_enter Try.func3, Try.ntmps3
    go_wp2_with fail
    refine HBG.out.mono ?_
    rintro e w1 ⟨rfl, b1⟩
    go_wp2_with fail
    refine (HN.out w1).mono ?_
    rintro e w2 ⟨rfl, rfl⟩
    go_wp2_with fail
    go_ret
    exact ⟨rfl, b1⟩

set_option maxHeartbeats 8000000 in
set_option maxRecDepth 100000 in
theorem VoteAll_good (w : World) (view n : Int) (hvn : VN view n) (A : Option Addr) (c m : Nat) (z : List Value) (R : Rd w w.heap.size A c 4 m z) (hz : AllVt w z) :
    Calls Try.prog 3 #[.int .i64 view, .int .i64 n, .slice A m c] w fun e w' => e = .returned (.bool true) ∧ Below w.heap.size w w' := by
  have hcap := R.cap
  have hle := R.le
  have hm : m ≤ 9223372036854775807 := by unfold maxLen at hcap; omega
  obtain ⟨hv1, hv2, hn3, hn7⟩ := hvn
  have HVN := Lib.hid (show VN view n from ⟨hv1, hv2, hn3, hn7⟩)
  have HR := Lib.hid R
  have HZ := Lib.hid hz
  clear R hz hcap hle
  go_enter Try.func3, Try.ntmps3
  go_wp2_with fail
  refine (begunV_c w).mono ?_
  rintro e w0 ⟨rfl, b0⟩
  have B0 := Lib.hid b0
  clear b0
  go_wp2_with fail
  refine (vnew_yes w0 view n HVN.out).mono ?_
  rintro e w1 ⟨rfl, h1, b1⟩
  have V1 := Lib.hid (Sv.new B0.out HVN.out h1 b1)
  clear h1 b1 B0
  generalize w0.heap.size = g at *
  have V2 := Lib.hid (V1.out.alloc (.cells #[.int .i64 view, .int .i64 n, .slice none 0 0] 29))
  have R2 := Lib.hid (Rs.new w1 view n #[.int .i64 view, .int .i64 n, .slice none 0 0] rfl)
  have F2L := Lib.hid (show ∀ q ∈ [w1.heap.size], w.heap.size ≤ q from fun q hq => by rw [List.mem_singleton.1 hq]; exact V1.out.bel.size)
  clear V1
  go_wp2_with fail
  generalize w1.alloc (.cells #[.int .i64 view, .int .i64 n, .slice none 0 0] 29) = w2 at *
  generalize hF : [w1.heap.size] = F2 at *
  clear hF
  generalize w1.heap.size = g2 at *
  generalize [g] = F at *
  go_loopw [10, 11, 12, 13, 14, 15] (fun s10 _ _ _ _ _ wr => ∃ (i : Nat) (F F2 : List Nat) (S : List (Option Vt)) (L : List Vt), s10 = .int .i64 i ∧ i ≤ m ∧ i ≤ 20 ∧ Hid (Sv w wr g F view n S) ∧ Hid (Rs wr g2 F2 view n L) ∧ Hid (∀ q ∈ F2, w.heap.size ≤ q) ∧ Hid (Mt L S) ∧ Hid (tsum L = tm S)) (fun s10 _ _ _ _ _ _ => m - (intOf s10).toNat)
  case atStart => exact ⟨0, F, F2, none7, [], rfl, by omega, by omega, V2, R2, F2L, Lib.hid mt_none, Lib.hid (by rw [tm_none]; rfl)⟩
  case round =>
    clear V2 R2 F2L F F2
    obtain ⟨i, F, F2, S, L, rfl, him, hi20, VV, RS, F2L, HM, HS⟩ := hrel
    go_upto_region 9 with fail
    go_cut [45] from 38 to 45 (fun s45 wx => s45 = .bool (decide (i < m ∧ i < 20)) ∧ wr = wx)
    case first =>
      by_cases c1 : i < m
      · have j1 : (i : Int) < (m : Int) := by omega
        by_cases c2 : i < 20
        · have j2 : (i : Int) < 20 := by omega
          go_wp2_with fail
          go_meet
          case rel => exact ⟨by rw [decide_eq_true ⟨c1, c2⟩], rfl⟩
        · have j2 : ¬ (i : Int) < 20 := by omega
          go_wp2_with fail
          go_meet
          case rel => exact ⟨by rw [decide_eq_false (fun h => c2 h.2)], rfl⟩
      · have j1 : ¬ (i : Int) < (m : Int) := by omega
        go_wp2_with fail
        go_meet
        case rel => exact ⟨by rw [decide_eq_false (fun h => c1 h.1)], rfl⟩
    case rest =>
      obtain ⟨rfl, rfl⟩ := hcut
      by_cases hc : i < m ∧ i < 20
      · rw [decide_eq_true hc]
        obtain ⟨him', hi20'⟩ := hc
        obtain ⟨b, o, fr, last, com, YA, cx, l, rfl, hra, hrd, hok, hfr⟩ := HR.out.vote HZ.out VV.out.bel him'
        have HRA := Lib.hid hra
        have HRD := Lib.hid hrd
        have HOK := Lib.hid hok
        have jm : (i : Int) < (m : Int) := by omega
        clear hra hrd hok hfr
        go_wp2_with ((with_reducible show wpList _ _ _ ((⟨some 51, Op.load _ _, _, _, _, _⟩ : Oper) :: _) _ _); go_must (refine wpList_load_mid rfl 32 (.tmp 50) rfl b (o + i * 4) rfl ([.int .i64 fr, .int .i64 last, .slice YA l.length cx, .int .i64 com]) _ HRA.out Try.underlying32 rfl (by kernel_rfl) ?_))
        refine (show Calls _ _ #[vv ⟨fr, last, l, com⟩ YA cx] wr _ from cutV_c wr ⟨fr, last, l, com⟩ YA cx HRD.out HOK.out).mono ?_
        rintro e w4 ⟨XA, XC, es, he, xo, -, b4⟩
        have he : e = .returned (.agg #[.int .i64 fr, .int .i64 last, .slice XA es.length XC, .int .i64 com]) := he
        subst he
        have bA := ((Below.refl w4.heap.size w4).alloc (Nat.le_refl _) (.cells #[.int .i64 fr, .int .i64 last, .slice XA es.length XC, .int .i64 com] 32)).drew
        have bW := b4.trans (bA.mono b4.size)
        have VV := Lib.hid (VV.out.past bW)
        have RS := Lib.hid (RS.out.past bW)
        have XO := Lib.hid (Ow.down (xo.past bA) (Nat.zero_le _))
        have K11 := Lib.hid (show Blk (w4.alloc (.cells #[.int .i64 fr, .int .i64 last, .slice XA es.length XC, .int .i64 com] 32)).drew w4.heap.size 32 [.int .i64 fr, .int .i64 last, .slice XA es.length XC, .int .i64 com] from Blk.new w4 #[.int .i64 fr, .int .i64 last, .slice XA es.length XC, .int .i64 com] 32)
        clear xo b4 bA bW HRA HRD HOK
        go_upto_region 12 with fail
        generalize w4.alloc (.cells #[.int .i64 fr, .int .i64 last, .slice XA es.length XC, .int .i64 com] 32) = w5 at *
        generalize w4.heap.size = g11 at *
        have NK := Lib.hid (show g11 ∉ g :: F2 from fun hm => by
          rcases List.mem_cons.1 hm with h | h
          · obtain ⟨us, hU⟩ := VV.out.vs.blk
            exact K11.out.ne hU (by decide) h
          · exact RS.out.apart K11.out (by decide) (by decide) h)
        obtain ⟨ob, hob⟩ : ∃ ob, ok view n S ⟨fr, last, es, com⟩ = ob := ⟨_, rfl⟩
        have WDD := VV.out.add ⟨fr, last, es, com⟩ XA XC XO.out.rd
        rw [hob] at WDD
        have WDD := Lib.hid WDD
        have OB := Lib.hid hob
        have ST := mt_step HM.out HS.out (view := view) (n := n) hn7 ⟨fr, last, es, com⟩
        rw [hob] at ST
        have ST := Lib.hid ST
        clear hob
-- REGION curfew/curfewlaw20.VoteAll 12 vall12 8
        refine Hs.begin (g :: F2) ?_
        refine Hs.take (v := .pointer (some ⟨g, 0, none⟩)) 0 53 rfl ?_ (fun _ _ => rfl)
        refine Hs.take (v := .agg #[.int .i64 fr, .int .i64 last, .slice XA es.length XC, .int .i64 com]) 1 54 rfl ?_ (fun w' hw' => by exact run_loadV (Blk.touch K11.out hw' NK.out).range rfl)
        refine Hs.take (v := .pointer (some ⟨g2, 0, none⟩)) 3 56 rfl ?_ (fun _ _ => rfl)
        refine Hs.take (v := .pointer (some ⟨g11, 0, none⟩)) 4 57 rfl ?_ (fun w' hw' => by go_simp; first | done | rfl | omega | exact wrap_in (by omega) (by omega) | exact Int.tmod_eq_emod_of_nonneg (by omega) | exact Int.tdiv_eq_ediv_of_nonneg (by omega) | (simp; omega))
        refine Hs.take (v := .int .i64 fr) 5 58 rfl ?_ (fun w' hw' => by have cc := (Blk.touch K11.out hw' NK.out).cell (i := 0) rfl; go_simp)
        refine Hs.take (v := .pointer (some ⟨g11, 1, none⟩)) 6 59 rfl ?_ (fun w' hw' => by go_simp; first | done | rfl | omega | exact wrap_in (by omega) (by omega) | exact Int.tmod_eq_emod_of_nonneg (by omega) | exact Int.tdiv_eq_ediv_of_nonneg (by omega) | (simp; omega))
        refine Hs.take (v := .int .i64 last) 7 60 rfl ?_ (fun w' hw' => by have cc := (Blk.touch K11.out hw' NK.out).cell (i := 1) rfl; go_simp)
        refine Hs.take (v := .pointer (some ⟨g11, 2, none⟩)) 8 61 rfl ?_ (fun w' hw' => by go_simp; first | done | rfl | omega | exact wrap_in (by omega) (by omega) | exact Int.tmod_eq_emod_of_nonneg (by omega) | exact Int.tdiv_eq_ediv_of_nonneg (by omega) | (simp; omega))
        refine Hs.take (v := .slice XA es.length XC) 9 62 rfl ?_ (fun w' hw' => by have cc := (Blk.touch K11.out hw' NK.out).cell (i := 2) rfl; go_simp)
        refine Hs.take (v := .pointer (some ⟨g11, 3, none⟩)) 10 63 rfl ?_ (fun w' hw' => by go_simp; first | done | rfl | omega | exact wrap_in (by omega) (by omega) | exact Int.tmod_eq_emod_of_nonneg (by omega) | exact Int.tdiv_eq_ediv_of_nonneg (by omega) | (simp; omega))
        refine Hs.take (v := .int .i64 com) 11 64 rfl ?_ (fun w' hw' => by have cc := (Blk.touch K11.out hw' NK.out).cell (i := 3) rfl; go_simp)
        refine Hs.take (v := .agg #[.int .i64 fr, .int .i64 last, .slice XA es.length XC, .int .i64 com]) 12 65 rfl ?_ (fun w' hw' => by exact run_buildRV rfl rfl rfl rfl)
        refine Hs.call (f := 12) (args := #[.pointer (some ⟨g, 0, none⟩), .agg #[.int .i64 fr, .int .i64 last, .slice XA es.length XC, .int .i64 com]]) 2 55 rfl ?_ (run_callf Try.func12 (by kernel_rfl) (by kernel_rfl) (by simp only [List.map_toArray, List.map_cons, List.map_nil]; rfl))
        refine (show Calls _ _ #[_, vv ⟨fr, last, es, com⟩ XA XC] _ _ from WDD.out).mono ?_
        rintro e w6 ⟨rfl, F6, v6, t6, f6⟩
        have V6 := Lib.hid v6
        have R6 := Lib.hid (RS.out.votes VV.out.vs t6)
        have X6 := Lib.hid (XO.out.touch t6 (fun s hs => by obtain ⟨us, hU⟩ := VV.out.vs.blk; rw [List.mem_singleton.1 hs]; exact XO.out.ne hU (by decide)))
        refine Hs.back (t6.wide (S' := g :: F2) (by simp)) ?_
        refine Hs.call (f := 13) (args := #[.pointer (some ⟨g2, 0, none⟩), .agg #[.int .i64 fr, .int .i64 last, .slice XA es.length XC, .int .i64 com]]) 13 66 rfl ?_ (run_callf Try.func13 (by kernel_rfl) (by kernel_rfl) (by simp only [List.map_toArray, List.map_cons, List.map_nil]; rfl))
        refine (show Calls _ _ #[_, vv ⟨fr, last, es, com⟩ XA XC] w6 _ from rvadd_c w6 g2 F2 view n L S R6.out HM.out HS.out ⟨fr, last, es, com⟩ XA XC X6.out).mono ?_
        rw [OB.out]
        rintro e w7 ⟨rfl, ⟨⟨F7, r7, f7⟩, t7⟩⟩
        have V7 := Lib.hid (V6.out.far t7 F2L.out (vs_rs_apart V6.out.vs R6.out))
        have R7 := Lib.hid r7
        have F7L := Lib.hid (show ∀ q ∈ F7, w.heap.size ≤ q from fun q hq => (f7 q hq).elim (F2L.out q) (fun h => Nat.le_trans V6.out.bel.size h))
        refine Hs.back (t7.wide (fun q hq => List.mem_cons_of_mem _ hq)) ?_
        refine Hs.take (v := .bool false) 14 67 rfl ?_ (fun w' hw' => by go_simp)
        refine Hs.done ?_
-- END
        clear WDD NK K11 VV RS XO V6 R6 X6 F2L HM HS OB
        generalize add view n S ⟨fr, last, es, com⟩ = S' at *
        generalize (if ob = true then L ++ [⟨fr, last, es, com⟩] else L) = L' at *
        have HM := Lib.hid ST.out.1
        have HS := Lib.hid ST.out.2
        clear ST
        obtain ⟨bs, hbs⟩ : ∃ bs, best n S' = bs := ⟨_, rfl⟩
        obtain ⟨bm, hbm⟩ : ∃ bm, PTeam.most (tm S') n = bm := ⟨_, rfl⟩
        have HBS := Lib.hid hbs
        have HBM := Lib.hid hbm
        clear hbs hbm
        go_wp2_with fail
        refine V7.out.best.mono ?_
        rintro e w8 ⟨PA, PC, he, po, b8⟩
        rw [HBS.out, HBM.out] at he
        rw [HBS.out] at po
        have he : e = .returned (.tuple #[.agg #[.int .i64 bs.fr, .int .i64 bs.last, .slice PA bs.es.length PC, .int .i64 bs.com], .bool bm]) := he
        subst he
        have bA := (Below.refl w8.heap.size w8).alloc (Nat.le_refl _) (.cells #[.int .i64 bs.fr, .int .i64 bs.last, .slice PA bs.es.length PC, .int .i64 bs.com] 32)
        have V9 := Lib.hid ((V7.out.past b8).past bA)
        have R9 := Lib.hid ((R7.out.past b8).past bA)
        have P9 := Lib.hid ((po.past bA).rd)
        have K9 := Lib.hid (Blk.new w8 #[.int .i64 bs.fr, .int .i64 bs.last, .slice PA bs.es.length PC, .int .i64 bs.com] 32)
        clear bA b8 po V7 R7
        go_wp2_with fail
        generalize w8.alloc (.cells #[.int .i64 bs.fr, .int .i64 bs.last, .slice PA bs.es.length PC, .int .i64 bs.com] 32) = w9 at *
        generalize w8.heap.size = ga at *
        refine (rvbest_c w9 g2 F7 view n L' S' R9.out HM.out HS.out).mono ?_
        rintro e w10 ⟨QA, QC, he, qo, b10⟩
        rw [HBS.out, HBM.out] at he
        rw [HBS.out] at qo
        have he : e = .returned (.tuple #[.agg #[.int .i64 bs.fr, .int .i64 bs.last, .slice QA bs.es.length QC, .int .i64 bs.com], .bool bm]) := he
        subst he
        have bA := (Below.refl w10.heap.size w10).alloc (Nat.le_refl _) (.cells #[.int .i64 bs.fr, .int .i64 bs.last, .slice QA bs.es.length QC, .int .i64 bs.com] 36)
        have V11 := Lib.hid ((V9.out.past b10).past bA)
        have R11 := Lib.hid ((R9.out.past b10).past bA)
        have P11 := Lib.hid (((P9.out.past b10).tight.past bA).tight)
        have Q11 := Lib.hid ((qo.past bA).tight)
        have K11 := Lib.hid ((K9.out.past b10).past bA)
        have J11 := Lib.hid (Blk.new w10 #[.int .i64 bs.fr, .int .i64 bs.last, .slice QA bs.es.length QC, .int .i64 bs.com] 36)
        clear bA b10 qo V9 R9 P9 K9
        have bb : (bm != bm) = false := by simp
        obtain ⟨t, ht⟩ : ∃ t : Nat, tm S' = t := ⟨_, rfl⟩
        have VT := fun w' h => vteam_c w' g F6 view n S' h
        have RTM := fun w' h => rvTeam_c w' g2 F7 view n L' h HM.out.ones HM.out.le
        have HBT := Lib.hid (show PTeam.most (t : Int) n = bm by rw [← ht]; exact HBM.out)
        rw [ht] at VT
        rw [HS.out, ht] at RTM
        have VT := Lib.hid VT
        have RTM := Lib.hid RTM
        have tt : ((t : Int) != (t : Int)) = false := by simp
        clear ht
        go_wp2_with fail
        generalize w10.alloc (.cells #[.int .i64 bs.fr, .int .i64 bs.last, .slice QA bs.es.length QC, .int .i64 bs.com] 36) = w11 at *
        generalize w10.heap.size = gb at *
        refine (VT.out w11 V11.out.vs).mono ?_
        rintro e w12 ⟨rfl, rfl⟩
        go_wp2_with fail
        refine (RTM.out w11 R11.out).mono ?_
        rintro e w12 ⟨rfl, rfl⟩
        go_wp2_with fail
        refine (venough_c w11 g F6 view n S' V11.out.vs).mono ?_
        rw [HBM.out]
        rintro e w12 ⟨rfl, b12⟩
        have V12 := Lib.hid (V11.out.past b12)
        have R12 := Lib.hid (R11.out.past b12)
        have P12 := Lib.hid ((P11.out.past b12).tight)
        have Q12 := Lib.hid ((Q11.out.past b12).tight)
        have K12 := Lib.hid (K11.out.past b12)
        have J12 := Lib.hid (J11.out.past b12)
        clear b12 V11 R11 P11 Q11 K11 J11
        go_wp2_with fail
        refine (RTM.out w12 R12.out).mono ?_
        rintro e w13 ⟨rfl, rfl⟩
        go_wp2_with fail
        refine (rtMost_c w12 (t : Int) n).mono ?_
        rw [HBT.out]
        rintro e w13 ⟨rfl, b13⟩
        have V13 := Lib.hid (V12.out.past b13)
        have R13 := Lib.hid (R12.out.past b13)
        have P13 := Lib.hid ((P12.out.past b13).tight)
        have Q13 := Lib.hid ((Q12.out.past b13).tight)
        have K13 := Lib.hid (K12.out.past b13)
        have J13 := Lib.hid (J12.out.past b13)
        clear b13 V12 R12 P12 Q12 K12 J12
        go_wp2_with fail
        refine (vview_c w13 g F6 view n S' V13.out.vs).mono ?_
        rintro e w14 ⟨rfl, rfl⟩
        cases bm with
        | false =>
          go_wp2_with fail
          go_roundw
          case rel => exact ⟨i + 1, F6, F7, S', L', by go_num, by omega, by omega, V13, R13, F7L, HM, HS⟩
          case measure => simp [intOf]; omega
        | true =>
          have k0 := K13.out.cell (i := 0) rfl
          have k1 := K13.out.cell (i := 1) rfl
          have k2 := K13.out.cell (i := 2) rfl
          have k3 := K13.out.cell (i := 3) rfl
          have l0 := J13.out.cell (i := 0) rfl
          have l1 := J13.out.cell (i := 1) rfl
          have l2 := J13.out.cell (i := 2) rfl
          have l3 := J13.out.cell (i := 3) rfl
          have a0 : (bs.fr != bs.fr) = false := by simp
          have a1 : (bs.last != bs.last) = false := by simp
          have a3 : (bs.com != bs.com) = false := by simp
          have C13 := Lib.hid ((Below.refl w13.heap.size w13))
          go_wp2_with fail
          refine (EqAll_c w13 PA QA PC bs.es.length QC bs.es.length bs.es bs.es P13.out Q13.out).mono ?_
          rw [PLog.eqL_self]
          rintro e w15 ⟨rfl, b15⟩
          have V15 := Lib.hid (V13.out.past b15)
          have R15 := Lib.hid (R13.out.past b15)
          have k3 := (K13.out.past b15).cell (i := 3) rfl
          have l3 := (J13.out.past b15).cell (i := 3) rfl
          clear k0 k1 k2 l0 l1 l2 b15
          go_wp2_with fail
          go_roundw
          case rel => exact ⟨i + 1, F6, F7, S', L', by go_num, by omega, by omega, V15, R15, F7L, HM, HS⟩
          case measure => simp [intOf]; omega
      · rw [decide_eq_false hc]
        go_wp2_with fail
        go_ret
        exact ⟨rfl, VV.out.bel⟩

theorem VoteAll_w (w : World) (view n : Int) (h1 : -9223372036854775808 ≤ view) (h2 : view ≤ 9223372036854775807) (A : Option Addr) (c m : Nat) (z : List Value) (R : Rd w w.heap.size A c 4 m z) (hz : AllVt w z) :
    Calls Try.prog 3 #[.int .i64 view, .int .i64 n, .slice A m c] w fun e w' => e = .returned (.bool true) ∧ Below w.heap.size w w' := by
  by_cases h : view < 1 ∨ n < 3 ∨ 7 < n
  · exact VoteAll_bad w view n h1 h2 A c m h
  · exact VoteAll_good w view n (by unfold VN; omega) A c m z R hz
end Go.Proofs.Ytheeigbljjcbpaa
