/- slices.symMergeCmpFunc. -/
import Derived.Test.YtnpdhddnlcpaiaaSortD
import Derived.Deep.CutRange
import Derived.Deep.DeepCutAuto
namespace Go.Proofs.Ytnpdhddnlcpaiaa
open Go.RowKit

/-- What a merge says of itself: two rows, each sorted, the second one's numbers behind the first one's. -/
def Sym (kf : Int → Int) (V : Int → Prop) (G : FuncId) (cb : Array Value) (g c N : Nat) (Z : List Value) (K : Nat) : Prop :=
  ∀ (w : World) (a m b : Nat) (P A B R : List Int), A.length + B.length ≤ K → P.length = a → a + A.length = m → m + B.length = b → a < m → m < b → N = P.length + (A.length + (B.length + R.length)) → Sl w g Z (P ++ (A ++ (B ++ R))) → Cm w g kf V G cb →
    (∀ x ∈ A ++ B, V x) → A.Pairwise (PSort.lt kf) → B.Pairwise (PSort.lt kf) → (∀ x ∈ A, ∀ y ∈ B, x < y) →
    Calls Try.prog 31 #[.slice (some ⟨g, 0, none⟩) N c, .int .i64 a, .int .i64 m, .int .i64 b, .func (.func G) #[] cb] w fun e w' => e = .returned (.tuple #[]) ∧ ∃ M, M.Perm (A ++ B) ∧ M.Pairwise (PSort.lt kf) ∧ Sl w' g Z (P ++ (M ++ R)) ∧ Touch [g] w w'

/-- All that a merge may lean on. -/
structure SymIn (w : World) (kf : Int → Int) (V : Int → Prop) (G : FuncId) (cb : Array Value) (g a m b : Nat) (P A B : List Int) : Prop where
  ha : P.length = a
  hm : a + A.length = m
  hb : m + B.length = b
  hC : Cm w g kf V G cb
  hV : ∀ x ∈ A ++ B, V x
  hA : A.Pairwise (PSort.lt kf)
  hB : B.Pairwise (PSort.lt kf)
  hup : ∀ x ∈ A, ∀ y ∈ B, x < y

set_option maxHeartbeats 3200000 in
set_option maxRecDepth 100000 in
theorem symE_c (kf : Int → Int) (V : Int → Prop) (G : FuncId) (cb : Array Value) (eg : ∀ args w, (callFunc G args).run Try.prog w = .ok (.enter G args) w) (g c N : Nat) (Z : List Value) (hbig : N < 4611686018427387904) (K : Nat) (ih : Sym kf V G cb g c N Z K)
    (w : World) (a m b : Nat) (P A B R : List Int) (hI : SymIn w kf V G cb g a m b P A B) (hK : A.length + B.length ≤ K + 1) (h1 : a + 1 < m) (h2 : m + 1 < b) (hNl : N = P.length + (A.length + (B.length + R.length))) (hS : Sl w g Z (P ++ (A ++ (B ++ R)))) :
    Calls Try.prog 31 #[.slice (some ⟨g, 0, none⟩) N c, .int .i64 a, .int .i64 m, .int .i64 b, .func (.func G) #[] cb] w fun e w' => e = .returned (.tuple #[]) ∧ ∃ M, M.Perm (A ++ B) ∧ M.Pairwise (PSort.lt kf) ∧ Sl w' g Z (P ++ (M ++ R)) ∧ Touch [g] w w' := by
  obtain ⟨mid, hmid⟩ : ∃ mid, mid = (a + b) / 2 := ⟨_, rfl⟩
  obtain ⟨lo, hlo⟩ : ∃ lo, lo = a + ((mid - a) - B.length) := ⟨_, rfl⟩
  obtain ⟨hi, hhi⟩ : ∃ hi, hi = a + min A.length (mid - a) := ⟨_, rfl⟩
  obtain ⟨n, hn⟩ : ∃ n, n = mid + m := ⟨_, rfl⟩
  obtain ⟨p, hp⟩ : ∃ p, p + 1 = n := ⟨n - 1, by omega⟩
  have hm := hI.hm
  have hb := hI.hb
  have hN : b ≤ N := by have := hI.ha; omega
  have HN := Lib.hid hNl
  have st : PSort.Cross kf A B (mid - a) (lo - a) (hi - a) := PSort.Cross.start (by omega) (by omega) (by omega)
  have ST := Lib.hid st
  have HI := Lib.hid hI
  have S0 := Lib.hid hS
  have IH := Lib.hid ih
  have HK := Lib.hid hK
  have m1 : ¬ (m : Int) - (a : Int) = 1 := by omega
  have m2 : ¬ (b : Int) - (m : Int) = 1 := by omega
  have m1' : ((m : Int) - (a : Int) == 1) = false := by simp; omega
  have m2' : ((b : Int) - (m : Int) == 1) = false := by simp; omega
  have m3 : ((a : Int) + (b : Int)) / 2 = (mid : Int) := by omega
  have m4 : (mid : Int) + (m : Int) = (n : Int) := by omega
  have m5 : (n : Int) - 1 = (p : Int) := by omega
  have F := Lib.hid (And.intro hmid (And.intro hlo (And.intro hhi (And.intro hn (And.intro hp (And.intro hm hb))))))
  have b1 : mid < b := by omega
  have b2 : a < mid := by omega
  have b3 : n < 9223372036854775807 := by omega
  have b4 : b ≤ 4611686018427387904 := by omega
  have hc1 : mid < m → (n : Int) - (b : Int) = (lo : Int) ∧ mid = hi := by omega
  have hc2 : ¬ mid < m → a = lo ∧ m = hi := by omega
  have HC1 := Lib.hid hc1
  have HC2 := Lib.hid hc2
  clear hNl hmid hlo hhi hn hp hm hb st hI hS ih hK hc1 hc2
  go_enter Try.func31, Try.ntmps31
  go_upto_if 140 with fail
  go_cut [20, 21] (fun s20 s21 wx => s20 = .int .i64 lo ∧ s21 = .int .i64 hi ∧ wx = w)
  case first =>
    by_cases hmm : mid < m
    · have e1 := (HC1.out hmm).1
      have E := Lib.hid (HC1.out hmm).2
      have hgt : (mid : Int) < (m : Int) := by omega
      go_wp2_with fail
      go_meet
      case rel => exact ⟨rfl, by rw [E.out], rfl⟩
    · have E := Lib.hid (HC2.out hmm)
      have hgt : ¬ (mid : Int) < (m : Int) := by omega
      go_wp2_with fail
      go_meet
      case rel => exact ⟨by rw [E.out.1], by rw [E.out.2], rfl⟩
  case rest =>
    obtain ⟨rfl, rfl, hw⟩ := hcut
    have hw' := hw.symm
    clear hw
    subst hw'
    go_wp2_with fail
    go_loopw [20, 21] (fun s20 s21 wr => ∃ s r : Nat, s20 = .int .i64 s ∧ s21 = .int .i64 r ∧ a ≤ s ∧ s ≤ r ∧ Hid (PSort.Cross kf A B (mid - a) (s - a) (r - a)) ∧ Hid (Sl wr g Z (P ++ (A ++ (B ++ R)))) ∧ Hid (Touch [g] w wr)) (fun s20 s21 _ => (intOf s21).toNat - (intOf s20).toNat)
    case atStart => exact ⟨lo, hi, rfl, rfl, by have := F.out; omega, by have := F.out; omega, ST, S0, Lib.hid (Touch.refl _ _)⟩
    case round =>
      obtain ⟨s, r, rfl, rfl, has, hsr, TC, SI, hT⟩ := hrel
      by_cases hlt : s < r
      · obtain ⟨h, h0⟩ : ∃ h, h = (s + r) / 2 := ⟨_, rfl⟩
        have hh : ((s : Int) + (r : Int)) / 2 = (h : Int) := by omega
        obtain ⟨hsh, hhr⟩ := half_le h0 hlt
        obtain ⟨f1, f2, f3, f4, f5, f6, f7⟩ := F.out
        obtain ⟨c1, c2, c3, c4, c5, c6⟩ := TC.out
        obtain ⟨q, hq⟩ : ∃ q, q + h = p := ⟨p - h, by omega⟩
        have hqe : (p : Int) - (h : Int) = (q : Int) := by omega
        have hP := HI.out.ha
        have x1 : (P ++ (A ++ (B ++ R))).getD h 0 = A.getD (h - a) 0 := by
          rw [getD_app (by omega), hP, getD_fst (by omega)]
        have x2 : (P ++ (A ++ (B ++ R))).getD q 0 = B.getD (mid - a - 1 - (h - a)) 0 := by
          rw [getD_app (by omega), hP, getD_app (by omega), getD_fst (by omega)]
          congr 1; omega
        have hlen : b ≤ (P ++ (A ++ (B ++ R))).length := by simp; omega
        have d1 := SI.out.cell (i := h) (by omega)
        have d2 := SI.out.cell (i := q) (by omega)
        rw [x1] at d1
        rw [x2] at d2
        have hx : A.getD (h - a) 0 ∈ A := PSort.getD_mem (by omega)
        have hy : B.getD (mid - a - 1 - (h - a)) 0 ∈ B := PSort.getD_mem (by omega)
        have HU := Lib.hid (TC.out.up (c := h - a) HI.out.hA HI.out.hB (by omega) (by omega))
        have HD := Lib.hid (TC.out.down (c := h - a) HI.out.hA HI.out.hB (by omega) (by omega))
        have jz : (h : Int) < (N : Int) := by omega
        have jz1 : (q : Int) < (N : Int) := by omega
        have HH := Lib.hid (And.intro h0 hq)
        clear h0 hq f1 f2 f3 f4 f5 f6 f7 c1 c2 c3 c4 c5 c6 x1 x2 hlen hP TC
        generalize A.getD (h - a) 0 = x at d1 hx HU HD
        generalize B.getD (mid - a - 1 - (h - a)) 0 = y at d2 hy HU HD
        by_cases hk : kf y < kf x
        · have hc := fun n => Cm.lo HI.out.hC hT.out (HI.out.hV y (List.mem_append_right _ hy)) (HI.out.hV x (List.mem_append_left _ hx)) hk n
          have HD' := Lib.hid (HD.out (PSort.lt_pos hk))
          clear hk hx hy HD HU
          go_wp2_with fail
          go_quiet (first | (go_at_fn G; refine Calls.quiet_of (hc _)))
          go_wp2_with fail
          go_roundw
          case rel => exact ⟨s, h, rfl, by go_num, by omega, by omega, HD', Lib.hid (SI.out.drewN _), Lib.hid (hT.out.drewN _)⟩
          case measure => simp [intOf]; omega
        · obtain ⟨z, hc⟩ := Cm.hi HI.out.hC hT.out (HI.out.hV y (List.mem_append_right _ hy)) (HI.out.hV x (List.mem_append_left _ hx)) hk
          have HU' := Lib.hid (HU.out (PSort.lt_neg (HI.out.hup x hx y hy) hk))
          clear hk hx hy HD HU
          go_wp2_with fail
          go_quiet (first | (go_at_fn G; refine Calls.quiet_of (hc _)))
          go_wp2_with fail
          go_roundw
          case rel => exact ⟨h + 1, r, by go_num, rfl, by omega, by omega, Lib.hid (by have := HU'.out; rwa [show h - a + 1 = h + 1 - a by omega] at this), Lib.hid (SI.out.drewN _), Lib.hid (hT.out.drewN _)⟩
          case measure => simp [intOf]; omega
      · obtain rfl : s = r := by omega
        obtain ⟨A1, A2, B1, B2, e, q1, q2, q3, q4, q5, q6, q7, q8⟩ : ∃ (A1 A2 B1 B2 : List Int) (e : Nat), A = A1 ++ A2 ∧ B = B1 ++ B2 ∧ a + A1.length = s ∧ s + A2.length = m ∧ m + B1.length = e ∧ e + B2.length = b ∧ e + s = n ∧ (∀ x ∈ A1 ++ B1, ∀ y ∈ A2 ++ B2, PSort.lt kf x y) := by
          obtain ⟨f1, f2, f3, f4, f5, f6, f7⟩ := F.out
          obtain ⟨c1, c2, c3, c4, c5, c6⟩ := TC.out
          refine ⟨A.take (s - a), A.drop (s - a), B.take (mid - s), B.drop (mid - s), n - s, (List.take_append_drop _ _).symm, (List.take_append_drop _ _).symm, by simp; omega, by simp; omega, by simp; omega, by simp; omega, by omega, ?_⟩
          have := TC.out.done HI.out.hA HI.out.hB
          rwa [show mid - a - (s - a) = mid - s by omega] at this
        subst q1 q2
        have he' : (n : Int) - (s : Int) = (e : Int) := by omega
        have hme : mid + A2.length = e := by have := F.out.2.2.2.1; omega
        have hsm : s + B1.length = mid := by have := F.out.2.2.2.1; omega
        have L := Lib.hid (And.intro q3 (And.intro q4 (And.intro q5 (And.intro q6 (And.intro q8 (And.intro hme hsm))))))
        have bm : s ≤ m := by omega
        have be : m ≤ e := by omega
        have be2 : e ≤ b := by omega
        have bs2 : s ≤ mid := by omega
        have bmid : mid ≤ e := by omega
        clear q3 q4 q5 q6 q7 q8 hme hsm TC
        go_upto_region 39 with fail
        go_cut [185] from 178 (fun s185 wx => s185 = .bool (decide (s < m ∧ m < e)) ∧ wx = wr)
        case first =>
          by_cases g1 : s < m
          · by_cases g2 : m < e
            · go_wp2_with fail
              go_meet
              case rel => exact ⟨by simp [g1, g2], rfl⟩
            · go_wp2_with fail
              go_meet
              case rel => exact ⟨by simp [g1, g2], rfl⟩
          · go_wp2_with fail
            go_meet
            case rel => exact ⟨by simp [g1], rfl⟩
        case rest =>
          obtain ⟨rfl, hw⟩ := hcut
          have hw' := hw.symm
          clear hw
          subst hw'
          go_upto_if 185 with fail
          go_cut [] from 178 (fun wx => Hid (Sl wx g Z (P ++ (A1 ++ (B1 ++ (A2 ++ (B2 ++ R)))))) ∧ Hid (Touch [g] w wx))
          case first =>
            by_cases hb : s < m ∧ m < e
            · have db : decide (s < m ∧ m < e) = true := by simp [hb]
              obtain ⟨hb1, hb2⟩ := hb
              have HB := Lib.hid (And.intro hb1 hb2)
              clear hb1 hb2
              go_wp2_with fail
              refine (rotate_c _ g c N s m e Z (P ++ A1) A2 B1 (B2 ++ R) _ (by have := HI.out.ha; have := L.out.1; simp; omega) L.out.2.1 L.out.2.2.1 HB.out.1 HB.out.2 (by have := HN.out; simp only [List.length_append] at this ⊢; omega) (by simpa using SI.out) hbig).mono ?_
              rintro e1 w1 ⟨rfl, S1, hT1⟩
              have S1' := Lib.hid S1
              clear S1 SI
              go_wp2_with fail
              go_meet
              case rel => exact ⟨Lib.hid (by simpa using S1'.out), Lib.hid (hT.out.trans hT1)⟩
            · have db : decide (s < m ∧ m < e) = false := by simp [hb]
              have HB := Lib.hid hb
              clear hb
              go_wp2_with fail
              go_meet
              case rel =>
                refine ⟨Lib.hid ?_, hT⟩
                have h0 : A2 = [] ∨ B1 = [] := by
                  obtain ⟨l1, l2, l3, l4, l5, l6, l7⟩ := L.out
                  have := HB.out
                  by_cases h : s < m
                  · exact .inr (List.eq_nil_of_length_eq_zero (by omega))
                  · exact .inl (List.eq_nil_of_length_eq_zero (by omega))
                have := SI.out
                rcases h0 with rfl | rfl <;> simpa using this
          case rest =>
            clear SI hT
            obtain ⟨SI, hT⟩ := hcut
            go_upto_region 41 with fail
            go_cut [199] from 178 (fun s199 wx => s199 = .bool (decide (a < s ∧ s < mid)) ∧ wx = wc)
            case first =>
              by_cases g1 : a < s
              · by_cases g2 : s < mid
                · go_wp2_with fail
                  go_meet
                  case rel => exact ⟨by simp [g1, g2], rfl⟩
                · go_wp2_with fail
                  go_meet
                  case rel => exact ⟨by simp [g1, g2], rfl⟩
              · go_wp2_with fail
                go_meet
                case rel => exact ⟨by simp [g1], rfl⟩
            case rest =>
              obtain ⟨rfl, hw⟩ := hcut
              subst hw
              go_upto_if 199 with fail
              go_cut [] from 178 (fun wx => ∃ M1 : List Int, Hid (M1.Perm (A1 ++ B1)) ∧ Hid (M1.Pairwise (PSort.lt kf)) ∧ Hid (Sl wx g Z (P ++ (M1 ++ (A2 ++ (B2 ++ R))))) ∧ Hid (Touch [g] w wx))
              case first =>
                by_cases hb : a < s ∧ s < mid
                · have db : decide (a < s ∧ s < mid) = true := by simp [hb]
                  have HB := Lib.hid hb
                  clear hb
                  go_wp2_with fail
                  have hpa := List.pairwise_append.1 HI.out.hA
                  have hpb := List.pairwise_append.1 HI.out.hB
                  refine (IH.out _ a s mid P A1 B1 (A2 ++ (B2 ++ R)) (by
                    obtain ⟨l1, l2, l3, l4, l5, l6, l7⟩ := L.out
                    have hk := HK.out
                    simp only [List.length_append] at hk; omega) HI.out.ha L.out.1 L.out.2.2.2.2.2.2 HB.out.1 HB.out.2 (by have := HN.out; simp only [List.length_append] at this ⊢; omega) SI.out (HI.out.hC.on hT.out)
                    (fun x hx => HI.out.hV x (by rcases List.mem_append.1 hx with h | h <;> simp [h])) hpa.1 hpb.1 (fun x hx y hy => HI.out.hup x (by simp [hx]) y (by simp [hy]))).mono ?_
                  rintro e1 w1 ⟨rfl, M1, p1, s1, S1, hT1⟩
                  have S1' := Lib.hid (And.intro p1 (And.intro s1 S1))
                  clear S1 p1 s1 SI hpa hpb
                  go_wp2_with fail
                  go_meet
                  case rel => exact ⟨M1, Lib.hid S1'.out.1, Lib.hid S1'.out.2.1, Lib.hid S1'.out.2.2, Lib.hid (hT.out.trans hT1)⟩
                · have db : decide (a < s ∧ s < mid) = false := by simp [hb]
                  have HB := Lib.hid hb
                  clear hb
                  go_wp2_with fail
                  go_meet
                  case rel =>
                    refine ⟨A1 ++ B1, Lib.hid (List.Perm.refl _), Lib.hid ?_, Lib.hid (by simpa using SI.out), hT⟩
                    have hpa := List.pairwise_append.1 HI.out.hA
                    have hpb := List.pairwise_append.1 HI.out.hB
                    have h0 : A1 = [] ∨ B1 = [] := by
                      obtain ⟨l1, l2, l3, l4, l5, l6, l7⟩ := L.out
                      have := HB.out
                      by_cases h : a < s
                      · exact .inr (List.eq_nil_of_length_eq_zero (by omega))
                      · exact .inl (List.eq_nil_of_length_eq_zero (by omega))
                    rcases h0 with rfl | rfl
                    · simpa using hpb.1
                    · simpa using hpa.1
              case rest =>
                clear SI hT
                obtain ⟨M1, pM, sM, SI, hT⟩ := hcut
                go_upto_region 43 with fail
                go_cut [213] from 178 (fun s213 wx => s213 = .bool (decide (mid < e ∧ e < b)) ∧ wx = wc)
                case first =>
                  by_cases g1 : mid < e
                  · by_cases g2 : e < b
                    · go_wp2_with fail
                      go_meet
                      case rel => exact ⟨by simp [g1, g2], rfl⟩
                    · go_wp2_with fail
                      go_meet
                      case rel => exact ⟨by simp [g1, g2], rfl⟩
                  · go_wp2_with fail
                    go_meet
                    case rel => exact ⟨by simp [g1], rfl⟩
                case rest =>
                  obtain ⟨rfl, hw⟩ := hcut
                  subst hw
                  have FIN : ∀ M2 : List Int, M2.Perm (A2 ++ B2) → M2.Pairwise (PSort.lt kf) → (M1 ++ M2).Perm ((A1 ++ A2) ++ (B1 ++ B2)) ∧ (M1 ++ M2).Pairwise (PSort.lt kf) := fun M2 p2 s2 =>
                    ⟨PSort.four_perm A1 A2 B1 B2 M1 M2 pM.out p2, PSort.both_sorted pM.out p2 sM.out s2 L.out.2.2.2.2.1⟩
                  have FIN' := Lib.hid FIN
                  clear FIN
                  by_cases hb : mid < e ∧ e < b
                  · have db : decide (mid < e ∧ e < b) = true := by simp [hb]
                    have HB := Lib.hid hb
                    clear hb
                    go_wp2_with fail
                    have hpa := List.pairwise_append.1 HI.out.hA
                    have hpb := List.pairwise_append.1 HI.out.hB
                    have hM1 := pM.out.length_eq
                    refine (IH.out _ mid e b (P ++ M1) A2 B2 R (by
                      obtain ⟨l1, l2, l3, l4, l5, l6, l7⟩ := L.out
                      have hk := HK.out
                      simp only [List.length_append] at hk; omega) (by
                      obtain ⟨l1, l2, l3, l4, l5, l6, l7⟩ := L.out
                      have := HI.out.ha
                      simp only [List.length_append] at hM1 ⊢; omega) L.out.2.2.2.2.2.1 L.out.2.2.2.1 HB.out.1 HB.out.2 (by have := HN.out; simp only [List.length_append] at this hM1 ⊢; omega) (by simpa using SI.out) (HI.out.hC.on hT.out)
                      (fun x hx => HI.out.hV x (by rcases List.mem_append.1 hx with h | h <;> simp [h])) hpa.2.1 hpb.2.1 (fun x hx y hy => HI.out.hup x (by simp [hx]) y (by simp [hy]))).mono ?_
                    rintro e1 w1 ⟨rfl, M2, p2, s2, S1, hT1⟩
                    have S1' := Lib.hid (And.intro p2 (And.intro s2 S1))
                    clear S1 p2 s2 SI hpa hpb hM1
                    go_wp2_with fail
                    go_end0
                    exact ⟨rfl, M1 ++ M2, (FIN'.out M2 S1'.out.1 S1'.out.2.1).1, (FIN'.out M2 S1'.out.1 S1'.out.2.1).2, by simpa using S1'.out.2.2, hT.out.trans hT1⟩
                  · have db : decide (mid < e ∧ e < b) = false := by simp [hb]
                    have HB := Lib.hid hb
                    clear hb
                    go_wp2_with fail
                    go_end0
                    have hpa := List.pairwise_append.1 HI.out.hA
                    have hpb := List.pairwise_append.1 HI.out.hB
                    have h0 : A2 = [] ∨ B2 = [] := by
                      obtain ⟨l1, l2, l3, l4, l5, l6, l7⟩ := L.out
                      have := HB.out
                      by_cases h : mid < e
                      · exact .inr (List.eq_nil_of_length_eq_zero (by omega))
                      · exact .inl (List.eq_nil_of_length_eq_zero (by omega))
                    have hs2 : (A2 ++ B2).Pairwise (PSort.lt kf) := by
                      rcases h0 with rfl | rfl
                      · simpa using hpb.2.1
                      · simpa using hpa.2.1
                    exact ⟨rfl, M1 ++ (A2 ++ B2), (FIN'.out _ (List.Perm.refl _) hs2).1, (FIN'.out _ (List.Perm.refl _) hs2).2, by simpa using SI.out, hT.out⟩

theorem sym_c (kf : Int → Int) (V : Int → Prop) (G : FuncId) (cb : Array Value) (eg : ∀ args w, (callFunc G args).run Try.prog w = .ok (.enter G args) w) (g c N : Nat) (Z : List Value) (hbig : N < 4611686018427387904) : ∀ K, Sym kf V G cb g c N Z K
  | 0 => fun w a m b P A B R hK ha hm hb h1 h2 => by omega
  | K + 1 => fun w a m b P A B R hK ha hm hb h1 h2 hN hS hC hV hA hB hup => by
    by_cases e1 : a + 1 = m
    · obtain ⟨x, rfl⟩ : ∃ x, A = [x] := List.length_eq_one_iff.1 (by omega)
      exact symA_c w g c N a m b Z P B R x kf V G cb eg ha e1 hb h2 (by simp at hN; omega) hS hbig hC (hV x (by simp)) (fun y hy => hV y (by simp [hy])) hB (fun y hy => hup x (by simp) y hy)
    · by_cases e2 : m + 1 = b
      · obtain ⟨x, rfl⟩ : ∃ x, B = [x] := List.length_eq_one_iff.1 (by omega)
        exact symB_c w g c N a m b Z P A R x kf V G cb eg ha hm e2 (by omega) (by simp at hN; omega) hS hbig hC (hV x (by simp)) (fun y hy => hV y (by simp [hy])) hA (fun y hy => hup y hy x (by simp))
      · exact symE_c kf V G cb eg g c N Z hbig K (sym_c kf V G cb eg g c N Z hbig K) w a m b P A B R ⟨ha, hm, hb, hC, hV, hA, hB, hup⟩ hK (by omega) (by omega) hN hS
end Go.Proofs.Ytnpdhddnlcpaiaa
