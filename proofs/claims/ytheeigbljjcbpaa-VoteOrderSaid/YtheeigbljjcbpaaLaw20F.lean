/- The walk of VoteOrder. -/
import Derived.Test.YtheeigbljjcbpaaVoteK
import Derived.Test.YtheeigbljjcbpaaVoteL
import Derived.Test.YtheeigbljjcbpaaVoteO
import Derived.Test.YtheeigbljjcbpaaVoteP
import Derived.Test.YtheeigbljjcbpaaEntR
import Derived.Deep.CutRange
namespace Go.Proofs.Ytheeigbljjcbpaa
open Go.RowKit PVote

/-- Whose vote was seen. -/
def seenL (O : List Vp) : List Value := (List.range 8).map fun j : Nat => Value.bool (O.any fun p => p.m.fr == (j : Int))
theorem seenL_len (O : List Vp) : (seenL O).length = 8 := by simp [seenL]
theorem seenL_at (O : List Vp) {k : Nat} (hk : k < 8) : (seenL O)[k]? = some (.bool (O.any fun p => p.m.fr == (k : Int))) := by
  unfold seenL
  rw [List.getElem?_map, List.getElem?_range hk]; rfl
theorem seenL_set (O : List Vp) {k : Nat} (p : Vp) (hp : p.m.fr = (k : Int)) : (seenL O).set k (.bool true) = seenL (O ++ [p]) := by
  apply List.ext_getElem?
  intro j
  rw [List.getElem?_set]
  by_cases hj : j < 8
  · rw [seenL_at _ hj, seenL_at _ hj, seenL_len, List.any_append]
    by_cases e : k = j
    · subst e
      rw [if_pos rfl, if_pos hj]
      simp [hp]
    · rw [if_neg e]
      have : ((k : Int) == (j : Int)) = false := by simp; omega
      simp [hp, this]
  · rw [List.getElem?_eq_none (l := seenL O) (by rw [seenL_len]; omega), List.getElem?_eq_none (l := seenL (O ++ [p])) (by rw [seenL_len]; omega), seenL_len]
    split
    · rw [if_neg (by omega)]
    · rfl
def Dst (O : List Vp) : Prop := (∀ p ∈ O, 1 ≤ p.m.fr ∧ p.m.fr ≤ 7) ∧ ∀ x ∈ O.map Vp.m, ∀ y ∈ O.map Vp.m, x.fr = y.fr → x = y
theorem dst_nil : Dst [] := ⟨by simp, by simp⟩
theorem dst_push {O : List Vp} (h : Dst O) (p : Vp) {k : Nat} (hp : p.m.fr = (k : Int)) (h1 : 1 ≤ k) (h7 : k ≤ 7) (hn : (O.any fun q => q.m.fr == (k : Int)) = false) : Dst (O ++ [p]) := by
  have no : ∀ x ∈ O.map Vp.m, x.fr ≠ p.m.fr := by
    intro x hx e
    obtain ⟨q, hq, rfl⟩ := List.mem_map.1 hx
    have : (O.any fun q => q.m.fr == (k : Int)) = true := List.any_eq_true.2 ⟨q, hq, by rw [e, hp]; simp⟩
    rw [hn] at this; cases this
  refine ⟨fun q hq => ?_, fun x hx y hy e => ?_⟩
  · rcases List.mem_append.1 hq with hq | hq
    · exact h.1 q hq
    · rw [List.mem_singleton.1 hq]; omega
  · rw [List.map_append] at hx hy
    rcases List.mem_append.1 hx with hx | hx <;> rcases List.mem_append.1 hy with hy | hy
    · exact h.2 x hx y hy e
    · have : y = p.m := by simpa using hy
      subst this; exact absurd e (no x hx)
    · have : x = p.m := by simpa using hx
      subst this; exact absurd e.symm (no y hy)
    · have e1 : x = p.m := by simpa using hx
      have e2 : y = p.m := by simpa using hy
      rw [e1, e2]

set_option maxHeartbeats 8000000 in
set_option maxRecDepth 100000 in
theorem VoteOrder_bad (w : World) (view n : Int) (A : Option Addr) (c m : Nat) (h : view < 1 ∨ n < 3 ∨ 7 < n) :
    Calls Try.prog 4 #[.int .i64 view, .int .i64 n, .slice A m c] w fun e w' => e = .returned (.bool true) ∧ Below w.heap.size w w' := by
  have HBG := Lib.hid (begunV_c w)
  have h' : view < 1 ∨ (1 ≤ view ∧ (n < 3 ∨ (3 ≤ n ∧ 7 < n))) := by omega
  clear h
  rcases h' with c | ⟨c1, c | ⟨c2, c⟩⟩
  all_goals
    go_enter Try.func4, Try.ntmps4
    go_wp2_with fail
    refine HBG.out.mono ?_
    rintro e w1 ⟨rfl, b1⟩
    go_wp2_with fail
    go_ret
    exact ⟨rfl, b1⟩

set_option maxHeartbeats 8000000 in
set_option maxRecDepth 100000 in
theorem VoteOrder_good (w : World) (view n : Int) (hvn : VN view n) (A : Option Addr) (c m : Nat) (z : List Value) (R : Rd w w.heap.size A c 4 m z) (hz : AllVt w z) :
    Calls Try.prog 4 #[.int .i64 view, .int .i64 n, .slice A m c] w fun e w' => e = .returned (.bool true) ∧ Below w.heap.size w w' := by
  have hcap := R.cap
  have hle := R.le
  have hm : m ≤ 9223372036854775807 := by unfold maxLen at hcap; omega
  obtain ⟨hv1, hv2, hn3, hn7⟩ := hvn
  have HVN := Lib.hid (show VN view n from ⟨hv1, hv2, hn3, hn7⟩)
  have HR := Lib.hid R
  have HZ := Lib.hid hz
  clear R hz hcap hle
  go_enter Try.func4, Try.ntmps4
  go_wp2_with fail
  refine (begunV_c w).mono ?_
  rintro e w0 ⟨rfl, b0⟩
  have B0 := Lib.hid b0
  clear b0
  go_wp2_with fail
  refine (vnew_yes w0 view n HVN.out).mono ?_
  rintro e w1 ⟨rfl, h1, b1⟩
  have V1 := Lib.hid (Sv.new B0.out HVN.out h1 b1)
  have L1 := Lib.hid h1.lt
  clear h1 b1 B0
  generalize w0.heap.size = g at *
  go_wp2_with fail
  refine (vnew_yes w1 view n HVN.out).mono ?_
  rintro e w2 ⟨rfl, h2, b2⟩
  have V2 := Lib.hid (V1.out.past b2)
  have U2 := Lib.hid (Sv.new V1.out.bel HVN.out h2 b2)
  have NG := Lib.hid (show g ≠ w1.heap.size by have := L1.out; omega)
  clear h2 b2 V1 L1
  generalize w1.heap.size = g2 at *
  have SB := Lib.hid (show Blk (w2.alloc (.cells #[.bool false, .bool false, .bool false, .bool false, .bool false, .bool false, .bool false, .bool false] 48)) w2.heap.size 48 (seenL []) from Blk.new w2 #[.bool false, .bool false, .bool false, .bool false, .bool false, .bool false, .bool false, .bool false] 48)
  have B3 := Lib.hid ((Below.refl w2.heap.size w2).alloc (Nat.le_refl _) (.cells #[.bool false, .bool false, .bool false, .bool false, .bool false, .bool false, .bool false, .bool false] 48))
  have O3 := Lib.hid (Ov.nil (w2.alloc (.cells #[.bool false, .bool false, .bool false, .bool false, .bool false, .bool false, .bool false, .bool false] 48)) w2.heap.size)
  clear hv1 hv2 hn3
  go_wp2_with fail
  generalize w2.alloc (.cells #[.bool false, .bool false, .bool false, .bool false, .bool false, .bool false, .bool false, .bool false] 48) = w3 at *
  go_loopw [10, 12, 13] (fun s10 s12 _ wr => ∃ (i : Nat) (O : List Vp) (OA : Option Addr) (oc : Nat), s12 = .int .i64 i ∧ i ≤ m ∧ i ≤ 20 ∧ O.length ≤ i ∧ s10 = .slice OA O.length oc ∧ Hid (Ov wr w2.heap.size OA oc O) ∧ Hid (Blk wr w2.heap.size 48 (seenL O)) ∧ Hid (Dst O) ∧ Hid (Below w2.heap.size w2 wr)) (fun _ s12 _ _ => m - (intOf s12).toNat)
  case atStart => exact ⟨0, [], none, 0, rfl, by omega, by omega, by simp, rfl, O3, SB, Lib.hid dst_nil, B3⟩
  case round =>
    clear SB B3 O3
    obtain ⟨i, O, OA, oc, rfl, him, hi20, hOi, rfl, OV, SB, HD, BW⟩ := hrel
    go_upto_region 10 with fail
    go_cut [45] from 38 to 45 (fun s45 wx => s45 = .bool (decide (i < m ∧ i < 20)) ∧ wr = wx)
    case first =>
      by_cases c1 : i < m
      · have j1 : (i : Int) < (m : Int) := by omega
        by_cases c2 : i < 20
        · have j2 : (i : Int) < 20 := by omega
          go_wp2_with fail
          go_meet
          case rel => exact ⟨by rw [decide_eq_true ⟨c1, c2⟩], rfl⟩
        · have j2 : ¬ (i : Int) < 20 := by omega
          go_wp2_with fail
          go_meet
          case rel => exact ⟨by rw [decide_eq_false (fun h => c2 h.2)], rfl⟩
      · have j1 : ¬ (i : Int) < (m : Int) := by omega
        go_wp2_with fail
        go_meet
        case rel => exact ⟨by rw [decide_eq_false (fun h => c1 h.1)], rfl⟩
    case rest =>
      obtain ⟨rfl, rfl⟩ := hcut
      by_cases hc : i < m ∧ i < 20
      · rw [decide_eq_true hc]
        obtain ⟨him', hi20'⟩ := hc
        have BWW := Lib.hid (show Below w.heap.size w wr from U2.out.bel.trans (BW.out.mono U2.out.bel.size))
        obtain ⟨b, o, fr, last, com, X, cx, l, rfl, hra, hrd, hok, hfr⟩ := HR.out.vote HZ.out BWW.out him'
        have HRA := Lib.hid hra
        have HRD := Lib.hid hrd
        have HOK := Lib.hid hok
        have jm : (i : Int) < (m : Int) := by omega
        clear hra hrd hok
        go_wp2_with ((with_reducible show wpList _ _ _ ((⟨some 51, Op.load _ _, _, _, _, _⟩ : Oper) :: _) _ _); go_must (refine wpList_load_mid rfl 32 (.tmp 50) rfl b (o + i * 4) rfl ([.int .i64 fr, .int .i64 last, .slice X l.length cx, .int .i64 com]) _ HRA.out Try.underlying32 rfl (by kernel_rfl) ?_))
        refine (show Calls _ _ #[vv ⟨fr, last, l, com⟩ X cx] wr _ from cutV_c wr ⟨fr, last, l, com⟩ X cx HRD.out HOK.out).mono ?_
        rintro e w4 ⟨XA, XC, es, he, xo, -, b4⟩
        have he : e = .returned (.agg #[.int .i64 fr, .int .i64 last, .slice XA es.length XC, .int .i64 com]) := he
        subst he
        have bA := (Below.refl w4.heap.size w4).alloc (Nat.le_refl _) (.cells #[.int .i64 fr, .int .i64 last, .slice XA es.length XC, .int .i64 com] 32)
        have B5 := Lib.hid ((BW.out.trans (b4.mono BW.out.size)).trans (bA.mono (Nat.le_trans BW.out.size b4.size)))
        have OV5 := Lib.hid ((OV.out.past b4).past bA)
        have SB5 := Lib.hid ((SB.out.past b4).past bA)
        have XO5 := Lib.hid (Ow.down (xo.past bA) (Nat.zero_le _))
        have K5 := Lib.hid (Blk.new w4 #[.int .i64 fr, .int .i64 last, .slice XA es.length XC, .int .i64 com] 32)
        clear xo b4 bA HRA HRD HOK OV SB BW BWW
        go_upto_region 13 with fail
        generalize w4.alloc (.cells #[.int .i64 fr, .int .i64 last, .slice XA es.length XC, .int .i64 com] 32) = w5 at *
        generalize w4.heap.size = g13 at *
        have p0 := K5.out.cell (i := 0) rfl
        by_cases c1 : fr < 1
        · go_wp2_with fail
          go_roundw
          case rel => exact ⟨i + 1, O, OA, oc, by go_num, by omega, by omega, by omega, rfl, OV5, SB5, HD, B5⟩
          case measure => simp [intOf]; omega
        · by_cases c2 : 7 < fr
          · go_wp2_with fail
            go_roundw
            case rel => exact ⟨i + 1, O, OA, oc, by go_num, by omega, by omega, by omega, rfl, OV5, SB5, HD, B5⟩
            case measure => simp [intOf]; omega
          · obtain ⟨k, rfl⟩ : ∃ k : Nat, fr = k := ⟨fr.toNat, by omega⟩
            have k1 : 1 ≤ k := by omega
            have k7 : k ≤ 7 := by omega
            have k8 : (k : Int) < 8 := by omega
            obtain ⟨s, hs⟩ : ∃ s, (O.any fun p => p.m.fr == (k : Int)) = s := ⟨_, rfl⟩
            have ps := SB5.out.cell (seenL_at O (show k < 8 by omega))
            rw [hs] at ps
            have HS := Lib.hid hs
            clear hs hfr
            cases s with
            | true =>
              go_wp2_with fail
              go_roundw
              case rel => exact ⟨i + 1, O, OA, oc, by go_num, by omega, by omega, by omega, rfl, OV5, SB5, HD, B5⟩
              case measure => simp [intOf]; omega
            | false =>
              have fs := SB5.out.free k
              have SB6 := Lib.hid (show Blk (w5.setCell ⟨w2.heap.size, k, none⟩ (.bool true)) w2.heap.size 48 (seenL (O ++ [⟨⟨(k : Int), last, es, com⟩, XA, XC⟩])) by
                have := SB5.out.set k (.bool true)
                rwa [seenL_set O ⟨⟨(k : Int), last, es, com⟩, XA, XC⟩ rfl] at this)
              have GS := grown_set w5 w2.heap.size k (.bool true)
              have OV6 := Lib.hid (OV5.out.far SB5.out (Touch.of_grown GS) (by decide) (by decide))
              have K6 := Lib.hid (K5.out.far GS (fun e => by subst e; exact absurd (K5.out.ne SB5.out (by decide)) (fun h => h rfl)))
              have XO6 := Lib.hid (XO5.out.touch (Touch.of_grown GS) (fun q hq => by rw [List.mem_singleton.1 hq]; exact XO5.out.ne SB5.out (by decide)))
              have B6 := Lib.hid (B5.out.trans (grown_below GS (Nat.le_refl _) B5.out.size))
              have HD2 := Lib.hid (dst_push HD.out ⟨⟨(k : Int), last, es, com⟩, XA, XC⟩ rfl k1 k7 HS.out)
              have bN := (Below.refl (w5.setCell ⟨w2.heap.size, k, none⟩ (.bool true)).heap.size (w5.setCell ⟨w2.heap.size, k, none⟩ (.bool true))).alloc (Nat.le_refl _) (.cells #[.int .i64 (k : Int), .int .i64 last, .slice XA es.length XC, .int .i64 com] 32)
              have OVA := Lib.hid (OV6.out.past bN)
              have XOA := Lib.hid (XO6.out.past bN)
              have SBA := Lib.hid (SB6.out.past bN)
              have BA := Lib.hid (B6.out.trans (bN.mono B6.out.size))
              have RN := Lib.hid (Rd.new (w5.setCell ⟨w2.heap.size, k, none⟩ (.bool true)) #[.int .i64 (k : Int), .int .i64 last, .slice XA es.length XC, .int .i64 com] 32 4 1 rfl (by unfold maxLen; omega))
              have SZA := Lib.hid BA.out.size
              clear GS bN OV6 XO6 SB6 B6 HD
              go_wp2_with (first | ((with_reducible show wpList _ _ _ ((⟨some 72, Op.load _ _, _, _, _, _⟩ : Oper) :: _) _ _); go_must (refine wpList_load_row rfl 32 (.tmp 13) rfl g13 rfl 32 #[.int .i64 (k : Int), .int .i64 last, .slice XA es.length XC, .int .i64 com] (0, 0) _ K6.out Try.underlying32 rfl (by kernel_rfl) ?_)) | ((with_reducible show wpList _ _ _ ((⟨some 73, Op.buildSlice _ _ _, _, _, _, _⟩ : Oper) :: _) _ _); go_must (refine wpList_buildV rfl 22 32 Try.underlying22 vote_info (.tmp 72) rfl (k : Int) last com XA es.length XC rfl ?_)) | ((with_reducible show wpList _ _ _ ((⟨some 74, Op.call _, _, _, _, _⟩ : Oper) :: _) _ _); go_must (refine wpList_app2 rfl (.tmp 71) (.tmp 73) 22 rfl w2.heap.size 32 _ 4 48 Try.underlying22 vote_info rfl (by omega) OA O.length oc (vrs O) rfl OVA.out.row _ _ 1 1 (vcs ⟨⟨(k : Int), last, es, com⟩, XA, XC⟩) rfl RN.out (vcs_oneCell _) (by unfold maxLen; omega) (by omega) SZA.out ?_)))
              intro A2 c2 w7 o7 g7 h7
              have OV7 := Lib.hid (OVA.out.push ⟨⟨(k : Int), last, es, com⟩, XA, XC⟩ XOA.out g7 o7)
              have SB7 := Lib.hid (SBA.out.touch (Touch.of_bk g7) (fun hm => OVA.out.row.ne SBA.out (by decide) (mem_bl.1 hm)))
              have B7 := Lib.hid (BA.out.grown g7 BA.out.size (fun q hq => OVA.out.row.low q hq))
              clear o7 g7 h7
              go_wp2_with fail
              go_roundw
              case rel => exact ⟨i + 1, O ++ [⟨⟨(k : Int), last, es, com⟩, XA, XC⟩], A2, c2, by go_num, by omega, by omega, by simp; omega, by simp, OV7, SB7, HD2, B7⟩
              case measure => simp [intOf]; omega
      · rw [decide_eq_false hc]
        have V3 := Lib.hid (V2.out.past BW.out)
        have U3 := Lib.hid (U2.out.past BW.out)
        have HMAP := Lib.hid (show (O.map Vp.m).length = O.length by simp)
        clear SB BW V2 U2 hc
        have hO20 : (O.length : Int) ≤ 20 := by omega
        go_wp2_with fail
        go_loopw [14] (fun s14 wx => ∃ (i : Nat) (F F2 : List Nat), s14 = .int .i64 i ∧ i ≤ O.length ∧ Hid (Sv w wx g F view n (addL view n ((O.map Vp.m).take i))) ∧ Hid (Sv w wx g2 F2 view n (addL view n ((O.map Vp.m).reverse.take i))) ∧ Hid (Ov wx w2.heap.size OA oc O)) (fun s14 _ => O.length - (intOf s14).toNat)
        case atStart => exact ⟨0, _, _, rfl, by omega, V3, U3, OV⟩
        case round =>
          clear V3 U3 OV
          obtain ⟨i, F, F2, rfl, hi, VV, UU, OV⟩ := hrel
          by_cases hin : i < O.length
          · have jn : (i : Int) < (O.length : Int) := by omega
            obtain ⟨j, hj⟩ : ∃ j : Nat, (O.length : Int) - 1 - (i : Int) = (j : Int) := ⟨O.length - 1 - i, by omega⟩
            have hjn : j < O.length := by omega
            have jjn : (j : Int) < (O.length : Int) := by omega
            obtain ⟨bo, qi, rfl, hqi, hmi, hri, hdi⟩ := OV.out.at_ hin
            have HRI := Lib.hid hri
            have E1 := Lib.hid (addL_take (view := view) (n := n) (show (O.map Vp.m)[i]? = some qi.m by rw [List.getElem?_map, hqi]; rfl))
            have HA := Lib.hid (VV.out.add qi.m qi.A qi.c hdi)
            rw [← E1.out] at HA
            clear hqi hmi hri hdi
            go_wp2_with ((with_reducible show wpList _ _ _ ((⟨some 85, Op.load _ _, _, _, _, _⟩ : Oper) :: _) _ _); go_must (refine wpList_load_mid rfl 32 (.tmp 84) rfl bo (i * 4) rfl ([.int .i64 qi.m.fr, .int .i64 qi.m.last, .slice qi.A qi.m.es.length qi.c, .int .i64 qi.m.com]) _ HRI.out Try.underlying32 rfl (by kernel_rfl) ?_))
            refine (show Calls _ _ #[_, vv qi.m qi.A qi.c] _ _ from HA.out).mono ?_
            rintro e w5 ⟨rfl, F5, v5, t5, -⟩
            have V5 := Lib.hid v5
            obtain ⟨ysg, hBg⟩ := VV.out.vs.blk
            have U5 := Lib.hid (UU.out.far t5 (fun q hq => by rw [List.mem_singleton.1 hq]; exact VV.out.self) (fun q hq => by rw [List.mem_singleton.1 hq]; exact UU.out.vs.apart hBg NG.out (by decide)))
            have O5 := Lib.hid (OV.out.far hBg t5 (by decide) (by decide))
            clear v5 t5 hBg ysg HA VV UU OV HRI E1
            obtain ⟨bo', qj, eb, hqj, hmj, hrj, hdj⟩ := O5.out.at_ hjn
            cases eb
            have HRJ := Lib.hid hrj
            have E2 := Lib.hid (addL_take (view := view) (n := n) (show (O.map Vp.m).reverse[i]? = some qj.m by
              rw [List.getElem?_reverse (by rw [HMAP.out]; exact hin), HMAP.out, show O.length - 1 - i = j by omega, List.getElem?_map, hqj]; rfl))
            have HA := Lib.hid (U5.out.add qj.m qj.A qj.c hdj)
            rw [← E2.out] at HA
            clear hqj hmj hrj hdj
            go_wp2_with ((with_reducible show wpList _ _ _ ((⟨some 95, Op.load _ _, _, _, _, _⟩ : Oper) :: _) _ _); go_must (refine wpList_load_mid rfl 32 (.tmp 94) rfl bo (j * 4) rfl ([.int .i64 qj.m.fr, .int .i64 qj.m.last, .slice qj.A qj.m.es.length qj.c, .int .i64 qj.m.com]) _ HRJ.out Try.underlying32 rfl (by kernel_rfl) ?_))
            refine (show Calls _ _ #[_, vv qj.m qj.A qj.c] _ _ from HA.out).mono ?_
            rintro e w6 ⟨rfl, F6, u6, t6, -⟩
            obtain ⟨ysg, hBg⟩ := U5.out.vs.blk
            have V6 := Lib.hid (V5.out.far t6 (fun q hq => by rw [List.mem_singleton.1 hq]; exact U5.out.self) (fun q hq => by rw [List.mem_singleton.1 hq]; exact V5.out.vs.apart hBg (fun e => NG.out e.symm) (by decide)))
            have O6 := Lib.hid (O5.out.far hBg t6 (by decide) (by decide))
            have U6 := Lib.hid u6
            clear u6 t6 hBg ysg HA U5 V5 O5 HRJ E2 hj
            go_wp2_with fail
            go_roundw
            case rel => exact ⟨i + 1, F5, F6, by go_num, by omega, V6, U6, O6⟩
            case measure => simp [intOf]; omega
          · obtain rfl : i = O.length := by omega
            have e1 : (O.map Vp.m).take O.length = O.map Vp.m := List.take_of_length_le (by rw [HMAP.out]; omega)
            have e2 : (O.map Vp.m).reverse.take O.length = (O.map Vp.m).reverse := List.take_of_length_le (by rw [List.length_reverse, HMAP.out]; omega)
            have e3 := addL_rev (view := view) (n := n) hn7 (O.map Vp.m) HD.out.2
            have V5 := Lib.hid (show Sv w _ g F view n (addL view n (O.map Vp.m)) from e1 ▸ VV.out)
            have U5 := Lib.hid (show Sv w _ g2 F2 view n (addL view n (O.map Vp.m)) by rw [e3]; exact e2 ▸ UU.out)
            clear VV UU e1 e2 e3 OV
            generalize addL view n (O.map Vp.m) = S at *
            obtain ⟨bs, hbs⟩ : ∃ bs, best n S = bs := ⟨_, rfl⟩
            obtain ⟨bm, hbm⟩ : ∃ bm, PTeam.most (tm S) n = bm := ⟨_, rfl⟩
            have HBS := Lib.hid hbs
            have HBM := Lib.hid hbm
            clear hbs hbm
            go_wp2_with fail
            refine V5.out.best.mono ?_
            rintro e w6 ⟨PA, PC, he, po, b6⟩
            rw [HBS.out, HBM.out] at he
            rw [HBS.out] at po
            have he : e = .returned (.tuple #[.agg #[.int .i64 bs.fr, .int .i64 bs.last, .slice PA bs.es.length PC, .int .i64 bs.com], .bool bm]) := he
            subst he
            have bA := (Below.refl w6.heap.size w6).alloc (Nat.le_refl _) (.cells #[.int .i64 bs.fr, .int .i64 bs.last, .slice PA bs.es.length PC, .int .i64 bs.com] 32)
            have V6 := Lib.hid ((V5.out.past b6).past bA)
            have U6 := Lib.hid ((U5.out.past b6).past bA)
            have P6 := Lib.hid (po.past bA)
            have K6 := Lib.hid (Blk.new w6 #[.int .i64 bs.fr, .int .i64 bs.last, .slice PA bs.es.length PC, .int .i64 bs.com] 32)
            clear bA b6 po V5 U5
            go_wp2_with fail
            generalize w6.alloc (.cells #[.int .i64 bs.fr, .int .i64 bs.last, .slice PA bs.es.length PC, .int .i64 bs.com] 32) = w7 at *
            generalize w6.heap.size = ga at *
            refine U6.out.best.mono ?_
            rintro e w8 ⟨QA, QC, he, qo, b8⟩
            rw [HBS.out, HBM.out] at he
            rw [HBS.out] at qo
            have he : e = .returned (.tuple #[.agg #[.int .i64 bs.fr, .int .i64 bs.last, .slice QA bs.es.length QC, .int .i64 bs.com], .bool bm]) := he
            subst he
            have bA := (Below.refl w8.heap.size w8).alloc (Nat.le_refl _) (.cells #[.int .i64 bs.fr, .int .i64 bs.last, .slice QA bs.es.length QC, .int .i64 bs.com] 32)
            have V8 := Lib.hid ((V6.out.past b8).past bA)
            have U8 := Lib.hid ((U6.out.past b8).past bA)
            have P8 := Lib.hid (((P6.out.past b8).past bA).rd)
            have Q8 := Lib.hid ((qo.past bA).rd)
            have K8 := Lib.hid ((K6.out.past b8).past bA)
            have L8 := Lib.hid (Blk.new w8 #[.int .i64 bs.fr, .int .i64 bs.last, .slice QA bs.es.length QC, .int .i64 bs.com] 32)
            clear bA b8 qo V6 U6 P6 K6
            have bb : (bm == bm) = true := by simp
            have k0 := K8.out.cell (i := 0) rfl
            have k1 := K8.out.cell (i := 1) rfl
            have k2 := K8.out.cell (i := 2) rfl
            have k3 := K8.out.cell (i := 3) rfl
            have l0 := L8.out.cell (i := 0) rfl
            have l1 := L8.out.cell (i := 1) rfl
            have l2 := L8.out.cell (i := 2) rfl
            have l3 := L8.out.cell (i := 3) rfl
            obtain ⟨ts, hts⟩ : ∃ ts : Int, ((tm S : Nat) : Int) = ts := ⟨_, rfl⟩
            go_wp2_with fail
            generalize w8.alloc (.cells #[.int .i64 bs.fr, .int .i64 bs.last, .slice QA bs.es.length QC, .int .i64 bs.com] 32) = w9 at *
            generalize w8.heap.size = gb at *
            have VT := vteam_c w9 g F view n S V8.out.vs
            have UT := vteam_c w9 g2 F2 view n S U8.out.vs
            rw [hts] at VT UT
            refine VT.mono ?_
            rintro e w10 ⟨rfl, rfl⟩
            go_wp2_with fail
            refine UT.mono ?_
            rintro e w10 ⟨rfl, rfl⟩
            go_wp2_with fail
            refine (EqAll_c w9 PA QA PC bs.es.length QC bs.es.length bs.es bs.es P8.out Q8.out).mono ?_
            rw [PLog.eqL_self]
            rintro e w10 ⟨rfl, b10⟩
            go_wp2_with fail
            go_ret
            exact ⟨rfl, (V8.out.past b10).bel⟩

theorem VoteOrder_w (w : World) (view n : Int) (h2 : view ≤ 9223372036854775807) (A : Option Addr) (c m : Nat) (z : List Value) (R : Rd w w.heap.size A c 4 m z) (hz : AllVt w z) :
    Calls Try.prog 4 #[.int .i64 view, .int .i64 n, .slice A m c] w fun e w' => e = .returned (.bool true) ∧ Below w.heap.size w w' := by
  by_cases h : view < 1 ∨ n < 3 ∨ 7 < n
  · exact VoteOrder_bad w view n A c m h
  · exact VoteOrder_good w view n (by unfold VN; omega) A c m z R hz
end Go.Proofs.Ytheeigbljjcbpaa
