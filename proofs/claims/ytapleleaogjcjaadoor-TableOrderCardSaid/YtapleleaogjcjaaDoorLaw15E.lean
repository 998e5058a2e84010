/- The walk of TableOrder. Made by program (gen15e.py). -/
import Derived.Test.YtapleleaogjcjaaDoorTabX
import Derived.Test.YtapleleaogjcjaaDoorPlainTabO
import Derived.Test.YtapleleaogjcjaaDoorCut
import Derived.Test.YtapleleaogjcjaaDoorStrs
import Derived.Test.YtapleleaogjcjaaDoorLaid
namespace Go.Proofs.YtapleleaogjcjaaDoor
open Go.RowKit PTab

/-- Two tables. -/
structure Tt (w0 w : World) (g : Nat) (F : List Nat) (c : Nat) (L : List Pr) (g2 : Nat) (F2 : List Nat) (c2 : Nat) (M : List Pr) : Prop where
  t1 : Tx w0 w g F c L
  t2 : Tx w0 w g2 F2 c2 M
  sep : ∀ k ∈ F, k ∉ F2
section
variable {w0 w w' : World} {g g2 c c2 : Nat} {F F2 : List Nat} {L M : List Pr}
theorem Tt.swap (h : Tt w0 w g F c L g2 F2 c2 M) : Tt w0 w g2 F2 c2 M g F c L := ⟨h.t2, h.t1, fun k hk hm => h.sep k hm hk⟩
theorem Tt.past (h : Tt w0 w g F c L g2 F2 c2 M) (hb : Below w.heap.size w w') : Tt w0 w' g F c L g2 F2 c2 M := ⟨h.t1.past hb, h.t2.past hb, h.sep⟩
theorem Tt.go (h : Tt w0 w g F c L g2 F2 c2 M) (e : Ent) (hd : e.data.size ≤ 1000000) (hc : c < 1000000) :
    Calls Tryd.prog 11 #[.pointer (some ⟨g, 0, none⟩), ev e] w fun x w' => ∃ F', x = .returned (.bool (did e)) ∧ Tt w0 w' g F' (c + 1) (doo L e) g2 F2 c2 M := by
  refine (h.t1.go e hd hc).mono ?_
  rintro x w' ⟨F', rfl, h1, h2, h3⟩
  refine ⟨F', rfl, h1, h.t2.touch h3 (fun k hk => ⟨h.sep k hk, h.t1.low k hk⟩), fun k hk hm => ?_⟩
  rcases h2 k hk with q | q
  · exact h.sep k q hm
  · have := h.t2.tb.hi k hm; omega
end
theorem strT_info : (Tryd.prog.info? 9).map (fun i => (i.zero, i.size, i.bytes)) = some (some (.string ⟨#[]⟩), 1, 16) := by kernel_rfl
theorem sts_append (a b : List ByteArray) : sts (a ++ b) = sts a ++ sts b := by simp [sts]
theorem sts_one (l : List ByteArray) : ∀ u ∈ sts l, u.oneCell' = true := by
  intro u hu
  obtain ⟨s, _, rfl⟩ := List.mem_map.1 hu
  rfl
theorem byte_at (s : ByteArray) (i : Nat) (h : i < s.size) : s.data.toList[i]? = some (s[i]'h) := by
  rw [Array.getElem?_toList, Array.getElem?_eq_getElem (show i < s.data.size from h)]
  rfl

theorem has61_step (s : ByteArray) (k : Nat) (h : k < s.size) : has61 (s.data.toList.take (k + 1)) = (has61 (s.data.toList.take k) || (((s[k]'h).toNat : Int) == 61)) := by
  rw [has61_take (byte_at s k h)]
  congr 1
  rw [Bool.eq_iff_iff, beq_iff_eq, beq_iff_eq]
  generalize s[k]'h = x
  constructor
  · intro h; subst h; rfl
  · intro h; exact UInt8.toNat_inj.1 (show x.toNat = 61 by omega)

set_option maxHeartbeats 8000000 in
set_option maxRecDepth 100000 in
theorem TableOrder_w (w : World) (ht : Tab w) (A : Option Addr) (c n : Nat) (l : List ByteArray) (h : Rd w w.heap.size A c 1 n (sts l)) (v0 : ByteArray) :
    Calls Tryd.prog 4 #[.slice A n c, .string v0] w fun x w' => x = .returned (.bool true) ∧ Below w.heap.size w w' := by
  have HT := Lib.hid ht
  have R0 := Lib.hid h
  have hcap := h.cap
  have hle := h.le
  have hn : n ≤ 9223372036854775807 := by unfold maxLen at hcap; omega
  clear ht h hcap hle
  go_enter Tryd.func4, Tryd.ntmps4
  go_wp2_with fail
  refine (begun_c w HT.out).mono ?_
  rintro x w1 ⟨rfl, b1⟩
  have B1 := Lib.hid b1
  clear b1
  go_wp2_with fail
  refine (Cut_c w1 v0 5 (by omega)).mono ?_
  rintro x wx ⟨v, rfl, hw, hv5, -⟩
  subst hw
  have HV5 := Lib.hid (show v.size ≤ 5 by omega)
  clear hv5
  go_wp2_with fail
  go_loopw [6, 7] (fun s6 s7 wr => ∃ (i m c' : Nat) (A' : Option Addr) (N : List ByteArray), i ≤ n ∧ i ≤ 10 ∧ m ≤ i ∧ s7 = .int .i64 i ∧ s6 = .slice A' m c' ∧ Hid (N.length = m) ∧ Hid (∀ a ∈ N, Gd a) ∧ Hid N.Nodup ∧
      Hid (wr.ownsRow w1.heap.size 9 1 (.slice A' m c') m (sts N)) ∧ Hid (Below w1.heap.size w1 wr))
    (fun _ s7 _ => n - (intOf s7).toNat)
  case atStart => exact ⟨0, 0, 0, none, [], by omega, by omega, by omega, rfl, rfl, Lib.hid rfl, Lib.hid (by simp), Lib.hid List.nodup_nil, Lib.hid (World.ownsRow_nil _ _ _ _), Lib.hid (Below.refl _ _)⟩
  case round =>
    obtain ⟨i, m, c0, A0, N, hi, hi10, hm, rfl, rfl, HLen, HG, HND, O, BL⟩ := hrel
    have BW := Lib.hid (B1.out.trans (BL.out.mono B1.out.size))
    have hch : (i < n ∧ i < 10) ∨ (i < n ∧ 10 ≤ i) ∨ n ≤ i := by omega
    rcases hch with ⟨hlt, hlt10⟩ | ⟨hlt, hge⟩ | hge
    · as_aux_lemma =>
          obtain ⟨b, of, s, rfl, -, -, hcell⟩ := (R0.out.past BW.out).str hlt
          go_wp2_with fail
          clear hcell
          refine (Cut_c wr s 8 (by omega)).mono ?_
          rintro x wx ⟨d, rfl, hw, hd8, -⟩
          subst hw
          have HD8 := Lib.hid (show d.size ≤ 8 by omega)
          obtain ⟨b0, hb0⟩ : ∃ b0, (d.toList == []) = b0 := ⟨_, rfl⟩
          have HB0 := Lib.hid (show b0 = decide (d.size = 0) by rw [← hb0]; exact toList_nil_iff d)
          clear hd8
          go_wp2_with fail
          clear hb0
          go_loopw [9, 10] (fun s9 s10 wz => ∃ (k : Nat) (bb : Bool), k ≤ d.size ∧ s10 = .int .i64 k ∧ s9 = .bool bb ∧ Hid (bb = (b0 || has61 (d.data.toList.take k))) ∧ Hid (wz = wr)) (fun _ s10 _ => d.size - (intOf s10).toNat)
          case atStart => exact ⟨0, b0, by omega, rfl, rfl, Lib.hid (by simp [has61]), Lib.hid rfl⟩
          case round =>
            obtain ⟨k, bb, hk, rfl, rfl, HK, HW⟩ := hrel
            have hw := HW.out
            subst hw
            clear HW
            by_cases hlt2 : k < d.size
            · have HST := Lib.hid (has61_step d k hlt2)
              have hk8 : k ≤ 8 := by have := HD8.out; omega
              cases bb
              · by_cases c1 : (d[k].toNat : Int) = 61
                · have f1 : ((d[k].toNat : Int) == 61) = true := beq_iff_eq.2 c1
                  have HK2 := Lib.hid (show true = (b0 || has61 (d.data.toList.take (k + 1))) by rw [HST.out, f1]; simp)
                  clear c1
                  go_wp2_with fail
                  go_roundw
                  case rel => exact ⟨k + 1, true, by omega, by go_num, rfl, HK2, Lib.hid (by trivial)⟩
                  case measure => simp [intOf]; omega
                · have f1 : ((d[k].toNat : Int) == 61) = false := by simpa using c1
                  have HK2 := Lib.hid (show false = (b0 || has61 (d.data.toList.take (k + 1))) by rw [HST.out, f1, Bool.or_false]; exact HK.out)
                  clear c1
                  go_wp2_with fail
                  go_roundw
                  case rel => exact ⟨k + 1, false, by omega, by go_num, rfl, HK2, Lib.hid (by trivial)⟩
                  case measure => simp [intOf]; omega
              · have HK2 := Lib.hid (show true = (b0 || has61 (d.data.toList.take (k + 1))) by rw [HST.out, ← Bool.or_assoc, ← HK.out]; rfl)
                go_wp2_with fail
                go_roundw
                case rel => exact ⟨k + 1, true, by omega, by go_num, rfl, HK2, Lib.hid (by trivial)⟩
                case measure => simp [intOf]; omega
            · have HB1 := Lib.hid (show bb = (b0 || has61 d.data.toList) by rw [HK.out, List.take_of_length_le (by rw [Array.length_toList]; show d.size ≤ k; omega)])
              have RO := Lib.hid (Rd.of_own O.out)
              clear HK
              go_wp2_with fail
              go_loopw [9, 11] (fun s9 s11 wz => ∃ (k : Nat) (b2 : Bool), k ≤ m ∧ s11 = .int .i64 k ∧ s9 = .bool b2 ∧ Hid (b2 = (bb || isIn (N.take k) d)) ∧ Hid (wz = wr)) (fun _ s11 _ => m - (intOf s11).toNat)
              case atStart => exact ⟨0, bb, by omega, rfl, rfl, Lib.hid (by simp [isIn]), Lib.hid rfl⟩
              case round =>
                obtain ⟨k2, b2, hk2, rfl, rfl, HK, HW⟩ := hrel
                have hw := HW.out
                subst hw
                clear HW
                by_cases hlt4 : k2 < m
                · obtain ⟨bq, oq, p, rfl, -, hp, hcell⟩ := RO.out.str hlt4
                  have HST := Lib.hid (show isIn (N.take (k2 + 1)) d = (isIn (N.take k2) d || eqb p d) by rw [take_at hp, isIn_snoc])
                  clear hp
                  cases b2
                  · cases hq : eqb p d
                    · have hq2 : (p.toList == d.toList) = false := hq
                      have HK2 := Lib.hid (show false = (bb || isIn (N.take (k2 + 1)) d) by rw [HST.out, hq, Bool.or_false]; exact HK.out)
                      clear hq
                      go_wp2_with fail
                      go_roundw
                      case rel => exact ⟨k2 + 1, false, by omega, by go_num, rfl, HK2, Lib.hid (by trivial)⟩
                      case measure => simp [intOf]; omega
                    · have hq2 : (p.toList == d.toList) = true := hq
                      have HK2 := Lib.hid (show true = (bb || isIn (N.take (k2 + 1)) d) by rw [HST.out, hq]; simp)
                      clear hq
                      go_wp2_with fail
                      go_roundw
                      case rel => exact ⟨k2 + 1, true, by omega, by go_num, rfl, HK2, Lib.hid (by trivial)⟩
                      case measure => simp [intOf]; omega
                  · have HK2 := Lib.hid (show true = (bb || isIn (N.take (k2 + 1)) d) by rw [HST.out, ← Bool.or_assoc, ← HK.out]; rfl)
                    clear hcell
                    go_wp2_with fail
                    go_roundw
                    case rel => exact ⟨k2 + 1, true, by omega, by go_num, rfl, HK2, Lib.hid (by trivial)⟩
                    case measure => simp [intOf]; omega
                · have HB2 := Lib.hid (show b2 = (bb || isIn N d) by rw [HK.out, List.take_of_length_le (by rw [HLen.out]; omega)])
                  clear HK
                  cases b2
                  · have hz := HB2.out
                    rw [HB1.out, HB0.out] at hz
                    simp only [Bool.false_eq, Bool.or_eq_false_iff, decide_eq_false_iff_not] at hz
                    have HGd := Lib.hid (show Gd d from ⟨by omega, HD8.out, has61_no hz.1.2⟩)
                    have HNI := Lib.hid (show d ∉ N from fun hm => by rw [isIn_iff.2 hm] at hz; exact Bool.noConfusion hz.2)
                    have bel := (Below.refl wr.heap.size wr).alloc (Nat.le_refl _) (.cells #[.string d] 9)
                    have N1 := Rd.new wr #[.string d] 9 1 1 rfl (by unfold maxLen; omega)
                    have Q1 := Lib.hid (own_below O.out bel)
                    have V1 := Lib.hid (BL.out.trans (bel.mono BL.out.size))
                    clear hz HB2 HB1 HB0 RO bel
                    go_wp2_with (at_builtin; refine wpList_app rfl (.tmp 68) (.tmp 70) 22 rfl w1.heap.size 9 _ 1 16 Tryd.underlying22 strT_info rfl (by omega) _ m (sts N) rfl Q1.out _ _ 1 1 (sts [d]) rfl N1 (sts_one _) ?d1 ?d2 V1.out.size ?_)
                    case d1 => unfold maxLen; omega
                    case d2 => omega
                    intro A3 c3 w3 o3 g3 b3
                    have O3 := Lib.hid (show w3.ownsRow w1.heap.size 9 1 (.slice A3 (m + 1) c3) (m + 1) (sts (N ++ [d])) by rw [sts_append]; exact o3)
                    have V3 := Lib.hid (V1.out.trans b3)
                    clear o3 g3 b3 N1 Q1 V1
                    go_wp2_with fail
                    go_roundw
                    case rel => exact ⟨i + 1, m + 1, c3, A3, N ++ [d], by omega, by omega, by omega, by go_num, rfl, Lib.hid (by simp [HLen.out]), Lib.hid (by
                      intro a ha
                      rcases List.mem_append.1 ha with q | q
                      · exact HG.out a q
                      · rw [List.mem_singleton.1 q]; exact HGd.out), Lib.hid (List.nodup_append.2 ⟨HND.out, by simp, fun a ha b hb e => HNI.out (by rw [List.mem_singleton] at hb; rw [← hb, ← e]; exact ha)⟩), O3, V3⟩
                    case measure => simp [intOf]; omega
                  · go_wp2_with fail
                    go_roundw
                    case rel => exact ⟨i + 1, m, c0, A0, N, by omega, by omega, by omega, by go_num, rfl, HLen, HG, HND, O, BL⟩
                    case measure => simp [intOf]; omega
    · as_aux_lemma =>
          go_wp2_with fail
          have RO := Lib.hid (Rd.of_own O.out)
          have TW := Lib.hid (HT.out.past BW.out)
          clear O R0
          refine (New_c wr).mono ?_
          rintro x w5 ⟨rfl, q5, b5⟩
          have X5 := Lib.hid (show Tx wr w5 wr.heap.size [wr.heap.size] 0 [] from ⟨q5, fun k hk => by rw [List.mem_singleton.1 hk]; exact Nat.le_refl _, b5⟩)
          have GL := Lib.hid (q5.hi wr.heap.size (List.mem_singleton.2 rfl))
          clear q5 b5
          obtain ⟨g, hg⟩ : ∃ g, wr.heap.size = g := ⟨_, rfl⟩
          rw [hg] at X5 GL ⊢
          go_wp2_with fail
          refine (New_c w5).mono ?_
          rintro x w6 ⟨rfl, q6, b6⟩
          have TT := Lib.hid (show Tt wr w6 g [g] 0 [] w5.heap.size [w5.heap.size] 0 [] from ⟨X5.out.past b6, ⟨q6, fun k hk => by rw [List.mem_singleton.1 hk]; exact X5.out.bel.size, X5.out.bel.trans (b6.mono X5.out.bel.size)⟩, fun k hk hm => by
            rw [List.mem_singleton.1 hk] at hm
            have := List.mem_singleton.1 hm
            have := GL.out
            omega⟩)
          clear q6 b6 X5 GL
          obtain ⟨g2, hg2⟩ : ∃ g2, w5.heap.size = g2 := ⟨_, rfl⟩
          rw [hg2] at TT ⊢
          clear hg hg2
          obtain ⟨wp, hwp⟩ : ∃ wp, wr = wp := ⟨_, rfl⟩
          subst hwp
          have hm10 : m ≤ 10 := by omega
          go_wp2_with fail
          go_loopw [14] (fun s14 wz => ∃ (j : Nat) (F F2 : List Nat), j ≤ m ∧ s14 = .int .i64 j ∧ Hid (Tt wr wz g F j (tab v (N.take j)) g2 F2 j (tab v (N.reverse.take j)))) (fun s14 _ => m - (intOf s14).toNat)
          case atStart => exact ⟨0, [g], [g2], by omega, rfl, TT⟩
          case round =>
            obtain ⟨j, F, F2, hj, rfl, S⟩ := hrel
            clear TT
            by_cases hjm : j < m
            · obtain ⟨bq, oq, a, rfl, hbq, ha, ca⟩ := RO.out.str hjm
              obtain ⟨q, hq⟩ : ∃ q, m = q + 1 + j := ⟨m - 1 - j, by omega⟩
              have hqm : q < m := by omega
              obtain ⟨bq', oq', a', hA, hbq', ha', ca'⟩ := RO.out.str hqm
              cases hA
              have hqq : (m : Int) - 1 - (j : Int) = (q : Int) := by omega
              have HTK := Lib.hid (take_at ha)
              have HTR := Lib.hid (rev_at HLen.out hjm (a := a') (by rw [show m - 1 - j = q by omega]; exact ha'))
              have HGa := Lib.hid (HG.out a (List.mem_of_getElem? ha))
              have HGa' := Lib.hid (HG.out a' (List.mem_of_getElem? ha'))
              have CA' := Lib.hid ca'
              have LB := Lib.hid hbq
              have c1 := (S.out.t1.bel.cell (p := ⟨bq, oq + j, none⟩) hbq).trans ca
              clear ha ha' ca ca' hbq hbq' hq
              have sa := HGa.out.le
              have sa' := HGa'.out.le
              have sv := HV5.out
              go_wp2_with fail
              clear c1 sa
              have D1 := Lib.hid (doo_name (L := tab v (N.take j)) HGa.out HV5.out)
              refine (show Calls Tryd.prog _ #[_, .agg #[.int .i64 1, .int .i64 1, .int .i64 1, .int .i64 0, .int .i64 0, .int .i64 0, .string (a ++ ⟨#[61]⟩ ++ v)]] wr _ from S.out.go (entS 1 (a ++ (⟨#[61]⟩ : ByteArray) ++ v)) (name_size HGa.out HV5.out) (by omega)).mono ?_
              rw [D1.out.1, D1.out.2, ← tab_snoc, ← HTK.out]
              rintro x w7 ⟨F7, rfl, s7⟩
              have S7 := Lib.hid s7.swap
              clear s7 S D1 HTK
              have c2 := (S7.out.t1.bel.cell (p := ⟨bq, oq + q, none⟩) LB.out).trans CA'.out
              go_wp2_with fail
              clear c2 sa' sv
              have D2 := Lib.hid (doo_name (L := tab v (N.reverse.take j)) HGa'.out HV5.out)
              refine (show Calls Tryd.prog _ #[_, .agg #[.int .i64 1, .int .i64 1, .int .i64 1, .int .i64 0, .int .i64 0, .int .i64 0, .string (a' ++ ⟨#[61]⟩ ++ v)]] w7 _ from S7.out.go (entS 1 (a' ++ (⟨#[61]⟩ : ByteArray) ++ v)) (name_size HGa'.out HV5.out) (by omega)).mono ?_
              rw [D2.out.1, D2.out.2, ← tab_snoc, ← HTR.out]
              rintro x w8 ⟨F8, rfl, s8⟩
              have S8 := Lib.hid s8.swap
              clear s8 S7 D2 HTR
              go_wp2_with fail
              go_roundw
              case rel => exact ⟨j + 1, F7, F8, by omega, by go_num, S8⟩
              case measure => simp [intOf]; omega
            · obtain rfl : j = m := by omega
              have e1 : tab v (N.take j) = tab v N := by rw [List.take_of_length_le (by rw [HLen.out]; exact Nat.le_refl _)]
              have e2 : tab v (N.reverse.take j) = tab v N := by rw [List.take_of_length_le (by rw [List.length_reverse, HLen.out]; exact Nat.le_refl _), tab_rev]
              have S2 := Lib.hid (show Tt _ wr g F j (tab v N) g2 F2 j (tab v N) by have := S.out; rw [e1, e2] at this; exact this)
              clear e1 e2 S RO
              obtain ⟨bz, hbz⟩ : ∃ bz, (v.toList == []) = bz := ⟨_, rfl⟩
              have HBZ := Lib.hid (show bz = decide (v.size = 0) by rw [← hbz]; exact toList_nil_iff v)
              cases bz
              · have hv := HBZ.out
                have HLT := Lib.hid (show (tab v N).length = j by rw [tab_len v (of_decide_eq_false hv.symm) N HND.out]; exact HLen.out)
                clear hv HBZ
                go_wp2_with fail
                clear hbz
                refine (Sum_t wr g F j (tab v N) S2.out.t1.tb (by omega) (S2.out.t1.tab TW.out)).mono ?_
                rintro x w9 ⟨rfl, b9⟩
                have S3 := Lib.hid (S2.out.past b9)
                clear b9 S2
                go_wp2_with fail
                refine (Sum_t w9 g2 F2 j (tab v N) S3.out.t2.tb (by omega) (S3.out.t2.tab TW.out)).mono ?_
                rintro x w10 ⟨rfl, b10⟩
                have S4 := Lib.hid (S3.out.past b10)
                clear b10 S3
                go_wp2_with fail
                refine (Names_c w10 g F j (tab v N) S4.out.t1.tb (by omega)).mono ?_
                rw [HLT.out]
                rintro x w11 ⟨A11, c11, rfl, -, -, b11⟩
                have S5 := Lib.hid (S4.out.past b11)
                clear b11 S4
                go_wp2_with fail
                refine (Names_c w11 g2 F2 j (tab v N) S5.out.t2.tb (by omega)).mono ?_
                rw [HLT.out]
                rintro x w12 ⟨A12, c12, rfl, -, -, b12⟩
                have S6 := Lib.hid (S5.out.past b12)
                clear b12 S5
                go_wp2_with fail
                go_ret
                exact ⟨rfl, BW.out.trans (S6.out.t1.bel.mono BW.out.size)⟩
              · have hv := HBZ.out
                have HLT := Lib.hid (show (tab v N).length = 0 by rw [tab_empty v (of_decide_eq_true hv.symm) N]; rfl)
                clear hv HBZ
                go_wp2_with fail
                clear hbz
                refine (Sum_t wr g F j (tab v N) S2.out.t1.tb (by omega) (S2.out.t1.tab TW.out)).mono ?_
                rintro x w9 ⟨rfl, b9⟩
                have S3 := Lib.hid (S2.out.past b9)
                clear b9 S2
                go_wp2_with fail
                refine (Sum_t w9 g2 F2 j (tab v N) S3.out.t2.tb (by omega) (S3.out.t2.tab TW.out)).mono ?_
                rintro x w10 ⟨rfl, b10⟩
                have S4 := Lib.hid (S3.out.past b10)
                clear b10 S3
                go_wp2_with fail
                refine (Names_c w10 g F j (tab v N) S4.out.t1.tb (by omega)).mono ?_
                rw [HLT.out]
                rintro x w11 ⟨A11, c11, rfl, -, -, b11⟩
                have S5 := Lib.hid (S4.out.past b11)
                clear b11 S4
                go_wp2_with fail
                refine (Names_c w11 g2 F2 j (tab v N) S5.out.t2.tb (by omega)).mono ?_
                rw [HLT.out]
                rintro x w12 ⟨A12, c12, rfl, -, -, b12⟩
                have S6 := Lib.hid (S5.out.past b12)
                clear b12 S5
                go_wp2_with fail
                go_ret
                exact ⟨rfl, BW.out.trans (S6.out.t1.bel.mono BW.out.size)⟩
    · as_aux_lemma =>
          go_wp2_with fail
          have RO := Lib.hid (Rd.of_own O.out)
          have TW := Lib.hid (HT.out.past BW.out)
          clear O R0
          refine (New_c wr).mono ?_
          rintro x w5 ⟨rfl, q5, b5⟩
          have X5 := Lib.hid (show Tx wr w5 wr.heap.size [wr.heap.size] 0 [] from ⟨q5, fun k hk => by rw [List.mem_singleton.1 hk]; exact Nat.le_refl _, b5⟩)
          have GL := Lib.hid (q5.hi wr.heap.size (List.mem_singleton.2 rfl))
          clear q5 b5
          obtain ⟨g, hg⟩ : ∃ g, wr.heap.size = g := ⟨_, rfl⟩
          rw [hg] at X5 GL ⊢
          go_wp2_with fail
          refine (New_c w5).mono ?_
          rintro x w6 ⟨rfl, q6, b6⟩
          have TT := Lib.hid (show Tt wr w6 g [g] 0 [] w5.heap.size [w5.heap.size] 0 [] from ⟨X5.out.past b6, ⟨q6, fun k hk => by rw [List.mem_singleton.1 hk]; exact X5.out.bel.size, X5.out.bel.trans (b6.mono X5.out.bel.size)⟩, fun k hk hm => by
            rw [List.mem_singleton.1 hk] at hm
            have := List.mem_singleton.1 hm
            have := GL.out
            omega⟩)
          clear q6 b6 X5 GL
          obtain ⟨g2, hg2⟩ : ∃ g2, w5.heap.size = g2 := ⟨_, rfl⟩
          rw [hg2] at TT ⊢
          clear hg hg2
          obtain ⟨wp, hwp⟩ : ∃ wp, wr = wp := ⟨_, rfl⟩
          subst hwp
          have hm10 : m ≤ 10 := by omega
          go_wp2_with fail
          go_loopw [14] (fun s14 wz => ∃ (j : Nat) (F F2 : List Nat), j ≤ m ∧ s14 = .int .i64 j ∧ Hid (Tt wr wz g F j (tab v (N.take j)) g2 F2 j (tab v (N.reverse.take j)))) (fun s14 _ => m - (intOf s14).toNat)
          case atStart => exact ⟨0, [g], [g2], by omega, rfl, TT⟩
          case round =>
            obtain ⟨j, F, F2, hj, rfl, S⟩ := hrel
            clear TT
            by_cases hjm : j < m
            · obtain ⟨bq, oq, a, rfl, hbq, ha, ca⟩ := RO.out.str hjm
              obtain ⟨q, hq⟩ : ∃ q, m = q + 1 + j := ⟨m - 1 - j, by omega⟩
              have hqm : q < m := by omega
              obtain ⟨bq', oq', a', hA, hbq', ha', ca'⟩ := RO.out.str hqm
              cases hA
              have hqq : (m : Int) - 1 - (j : Int) = (q : Int) := by omega
              have HTK := Lib.hid (take_at ha)
              have HTR := Lib.hid (rev_at HLen.out hjm (a := a') (by rw [show m - 1 - j = q by omega]; exact ha'))
              have HGa := Lib.hid (HG.out a (List.mem_of_getElem? ha))
              have HGa' := Lib.hid (HG.out a' (List.mem_of_getElem? ha'))
              have CA' := Lib.hid ca'
              have LB := Lib.hid hbq
              have c1 := (S.out.t1.bel.cell (p := ⟨bq, oq + j, none⟩) hbq).trans ca
              clear ha ha' ca ca' hbq hbq' hq
              have sa := HGa.out.le
              have sa' := HGa'.out.le
              have sv := HV5.out
              go_wp2_with fail
              clear c1 sa
              have D1 := Lib.hid (doo_name (L := tab v (N.take j)) HGa.out HV5.out)
              refine (show Calls Tryd.prog _ #[_, .agg #[.int .i64 1, .int .i64 1, .int .i64 1, .int .i64 0, .int .i64 0, .int .i64 0, .string (a ++ ⟨#[61]⟩ ++ v)]] wr _ from S.out.go (entS 1 (a ++ (⟨#[61]⟩ : ByteArray) ++ v)) (name_size HGa.out HV5.out) (by omega)).mono ?_
              rw [D1.out.1, D1.out.2, ← tab_snoc, ← HTK.out]
              rintro x w7 ⟨F7, rfl, s7⟩
              have S7 := Lib.hid s7.swap
              clear s7 S D1 HTK
              have c2 := (S7.out.t1.bel.cell (p := ⟨bq, oq + q, none⟩) LB.out).trans CA'.out
              go_wp2_with fail
              clear c2 sa' sv
              have D2 := Lib.hid (doo_name (L := tab v (N.reverse.take j)) HGa'.out HV5.out)
              refine (show Calls Tryd.prog _ #[_, .agg #[.int .i64 1, .int .i64 1, .int .i64 1, .int .i64 0, .int .i64 0, .int .i64 0, .string (a' ++ ⟨#[61]⟩ ++ v)]] w7 _ from S7.out.go (entS 1 (a' ++ (⟨#[61]⟩ : ByteArray) ++ v)) (name_size HGa'.out HV5.out) (by omega)).mono ?_
              rw [D2.out.1, D2.out.2, ← tab_snoc, ← HTR.out]
              rintro x w8 ⟨F8, rfl, s8⟩
              have S8 := Lib.hid s8.swap
              clear s8 S7 D2 HTR
              go_wp2_with fail
              go_roundw
              case rel => exact ⟨j + 1, F7, F8, by omega, by go_num, S8⟩
              case measure => simp [intOf]; omega
            · obtain rfl : j = m := by omega
              have e1 : tab v (N.take j) = tab v N := by rw [List.take_of_length_le (by rw [HLen.out]; exact Nat.le_refl _)]
              have e2 : tab v (N.reverse.take j) = tab v N := by rw [List.take_of_length_le (by rw [List.length_reverse, HLen.out]; exact Nat.le_refl _), tab_rev]
              have S2 := Lib.hid (show Tt _ wr g F j (tab v N) g2 F2 j (tab v N) by have := S.out; rw [e1, e2] at this; exact this)
              clear e1 e2 S RO
              obtain ⟨bz, hbz⟩ : ∃ bz, (v.toList == []) = bz := ⟨_, rfl⟩
              have HBZ := Lib.hid (show bz = decide (v.size = 0) by rw [← hbz]; exact toList_nil_iff v)
              cases bz
              · have hv := HBZ.out
                have HLT := Lib.hid (show (tab v N).length = j by rw [tab_len v (of_decide_eq_false hv.symm) N HND.out]; exact HLen.out)
                clear hv HBZ
                go_wp2_with fail
                clear hbz
                refine (Sum_t wr g F j (tab v N) S2.out.t1.tb (by omega) (S2.out.t1.tab TW.out)).mono ?_
                rintro x w9 ⟨rfl, b9⟩
                have S3 := Lib.hid (S2.out.past b9)
                clear b9 S2
                go_wp2_with fail
                refine (Sum_t w9 g2 F2 j (tab v N) S3.out.t2.tb (by omega) (S3.out.t2.tab TW.out)).mono ?_
                rintro x w10 ⟨rfl, b10⟩
                have S4 := Lib.hid (S3.out.past b10)
                clear b10 S3
                go_wp2_with fail
                refine (Names_c w10 g F j (tab v N) S4.out.t1.tb (by omega)).mono ?_
                rw [HLT.out]
                rintro x w11 ⟨A11, c11, rfl, -, -, b11⟩
                have S5 := Lib.hid (S4.out.past b11)
                clear b11 S4
                go_wp2_with fail
                refine (Names_c w11 g2 F2 j (tab v N) S5.out.t2.tb (by omega)).mono ?_
                rw [HLT.out]
                rintro x w12 ⟨A12, c12, rfl, -, -, b12⟩
                have S6 := Lib.hid (S5.out.past b12)
                clear b12 S5
                go_wp2_with fail
                go_ret
                exact ⟨rfl, BW.out.trans (S6.out.t1.bel.mono BW.out.size)⟩
              · have hv := HBZ.out
                have HLT := Lib.hid (show (tab v N).length = 0 by rw [tab_empty v (of_decide_eq_true hv.symm) N]; rfl)
                clear hv HBZ
                go_wp2_with fail
                clear hbz
                refine (Sum_t wr g F j (tab v N) S2.out.t1.tb (by omega) (S2.out.t1.tab TW.out)).mono ?_
                rintro x w9 ⟨rfl, b9⟩
                have S3 := Lib.hid (S2.out.past b9)
                clear b9 S2
                go_wp2_with fail
                refine (Sum_t w9 g2 F2 j (tab v N) S3.out.t2.tb (by omega) (S3.out.t2.tab TW.out)).mono ?_
                rintro x w10 ⟨rfl, b10⟩
                have S4 := Lib.hid (S3.out.past b10)
                clear b10 S3
                go_wp2_with fail
                refine (Names_c w10 g F j (tab v N) S4.out.t1.tb (by omega)).mono ?_
                rw [HLT.out]
                rintro x w11 ⟨A11, c11, rfl, -, -, b11⟩
                have S5 := Lib.hid (S4.out.past b11)
                clear b11 S4
                go_wp2_with fail
                refine (Names_c w11 g2 F2 j (tab v N) S5.out.t2.tb (by omega)).mono ?_
                rw [HLT.out]
                rintro x w12 ⟨A12, c12, rfl, -, -, b12⟩
                have S6 := Lib.hid (S5.out.past b12)
                clear b12 S5
                go_wp2_with fail
                go_ret
                exact ⟨rfl, BW.out.trans (S6.out.t1.bel.mono BW.out.size)⟩
end Go.Proofs.YtapleleaogjcjaaDoor
