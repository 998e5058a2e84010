/- The walks of ReadyNone, ReadyEnd. -/
import Derived.Test.YthmcjehpmfebaaaReadyM
namespace Go.Proofs.Ythmcjehpmfebaaa
open Go.RowKit PReady

set_option maxHeartbeats 4000000 in
set_option maxRecDepth 100000 in
theorem ReadyNone_w (w : World) : Calls Try.prog 7 #[] w fun e w' => e = .returned (.bool true) ∧ Below w.heap.size w w' := by
  go_enter Try.func7, Try.ntmps7
  go_wp2_with fail
  refine (begun_c w).mono ?_
  rintro x w1 ⟨rfl, b1⟩
  have B2 := Lib.hid (b1.trans (((Below.refl w1.heap.size w1).alloc (Nat.le_refl _) (.cells #[.int .i64 1, .int .i64 1, .int .i64 1, .int .i64 0, .int .i64 0, .int .i64 0, .string ⟨#[]⟩] 39)).mono b1.size))
  clear b1
  go_wp2_with fail
  generalize (w1.alloc (.cells #[.int .i64 1, .int .i64 1, .int .i64 1, .int .i64 0, .int .i64 0, .int .i64 0, .string ⟨#[]⟩] 39)) = w2 at *
  refine (Go_nil w2 _ _ _ 1 9).mono ?_
  rintro x w' ⟨rfl, rfl⟩
  go_wp2_with fail
  refine (Told_nil w2).mono ?_
  rintro x w' ⟨rfl, rfl⟩
  go_wp2_with fail
  refine (show Calls Try.prog _ #[_, .agg #[.int .i64 0, .int .i64 0, .int .i64 0, .int .i64 0, .int .i64 0, .int .i64 0, .string ⟨#[]⟩]] w2 _ from Has_nil w2 zeroE).mono ?_
  rintro x w3 ⟨rfl, b3⟩
  go_wp2_with fail
  go_ret
  exact ⟨rfl, B2.out.trans (b3.mono B2.out.size)⟩

set_option maxHeartbeats 8000000 in
set_option maxRecDepth 100000 in
theorem ReadyEnd_w (w : World) (A0 : Option Addr) (c0 n0 : Nat) (l0 : List Ent) (H00 : Rd w w.heap.size A0 c0 7 n0 (els l0)) (hok : ∀ e ∈ l0, EntOk e) (AO : Option Addr) (cO nO : Nat) (zO : List Value) (HO0 : Rd w w.heap.size AO cO 3 nO zO) (yO : AllI zO) :
    Calls Try.prog 6 #[.slice A0 n0 c0, .slice AO nO cO] w fun e w' => e = .returned (.bool true) ∧ Below w.heap.size w w' := by
  have H0 := Lib.hid H00
  have HOK := Lib.hid hok
  have HO := Lib.hid HO0
  have YO := Lib.hid yO
  have hnO : nO ≤ 9223372036854775807 := by have := HO0.le; have := HO0.cap; unfold maxLen at this; omega
  clear H00 hok HO0 yO
  go_enter Try.func6, Try.ntmps6
  go_wp2_with fail
  refine (begun_c w).mono ?_
  rintro x w1 ⟨rfl, b1⟩
  have B1 := Lib.hid b1
  clear b1
  go_wp2_with fail
  refine (lEntries_c w1 A0 c0 n0 l0 30 (H0.out.past B1.out).tight HOK.out (by decide) (by decide)).mono ?_
  rintro x w2 ⟨A2, c2, es, rfl, hlen, ho2, hsm, b2⟩
  have HES := Lib.hid (show es.length ≤ 30 by have : ((30 : Int)).toNat = 30 := rfl; omega)
  have O2 := Lib.hid (Rd.of_own ho2)
  have B2 := Lib.hid (B1.out.trans (b2.mono B1.out.size))
  clear hlen ho2 hsm b2 B1
  go_wp2_with fail
  refine (rLog_c w2 _ A2 c2 es.length es O2.out).mono ?_
  rintro x w3 ⟨A3, c3, rfl, ho3, b3⟩
  have LLH := Lib.hid (LL.log es HES.out)
  have O3 := Lib.hid (Rd.of_own ho3)
  have B3 := Lib.hid (B2.out.trans (b3.mono B2.out.size))
  clear ho3 b3 B2 O2 HES
  generalize PLog.log es = l at *
  go_wp2_with fail
  refine (New_c w3).mono ?_
  rintro x w4 ⟨rfl, q4, b4⟩
  have S4 := Lib.hid (show Sy w w4 w3.heap.size [w3.heap.size] [] A3 c3 l from ⟨Sx.made O3.out B3.out q4 b4, by rw [unt_nil]; simp⟩)
  clear q4 b4
  obtain ⟨g, hg⟩ : ∃ g, w3.heap.size = g := ⟨_, rfl⟩
  rw [hg] at S4 ⊢
  clear hg O3 B3
  go_wp2_with fail
  have hll : (l.length : Int) ≤ 30 := by have := LLH.out.le; omega
  go_loopw [8] (fun s8 wr => ∃ (i : Nat) (F : List Nat) (T : List Tl), s8 = .int .i64 i ∧ i ≤ nO ∧ i ≤ 20 ∧ Hid (Sy w wr g F T A3 c3 l)) (fun s8 _ => nO - (intOf s8).toNat)
  case atStart => exact ⟨0, [g], [], rfl, by omega, by omega, S4⟩
  case round =>
    obtain ⟨i, F, T, rfl, hi, hi2, HS⟩ := hrel
    clear S4
    by_cases h1 : i < nO
    · by_cases h2 : i < 20
      · have j2 : (i : Int) < 20 := by omega
        obtain ⟨b, o, x, y, t, rfl, hb, k0, k1, k2, -, -, -⟩ := (HO.out.below HS.out.sx.bel).op YO.out h1
        have HB := Lib.hid hb
        have K1 := Lib.hid k1
        have K2 := Lib.hid k2
        clear k0 k1 k2 hb
        go_wp2_with fail
        have SD := Lib.hid HS.out.drew
        refine Hb.beginB (B := w.heap.size) ?_
        refine Hb.take (v := .pointer (some ⟨g, 0, none⟩)) 0 27 rfl ?_ (fun _ _ => rfl)
        refine Hb.take (v := .slice A3 l.length c3) 1 28 rfl ?_ (fun _ _ => rfl)
        refine Hb.take (v := .slice (some ⟨b, o, none⟩) nO cO) 2 29 rfl ?_ (fun _ _ => rfl)
        refine Hb.take (v := .int .i64 (i : Int)) 3 30 rfl ?_ (fun _ _ => rfl)
        refine Hb.take (v := .pointer (some ⟨b, o + i * 3, none⟩)) 4 31 rfl ?_ (fun w' hw' => by go_simp; first | done | rfl | omega | (simp; omega))
        refine Hb.take (v := .pointer (some ⟨b, o + i * 3 + 1, none⟩)) 5 32 rfl ?_ (fun w' hw' => by go_simp; first | done | rfl | omega)
        refine Hb.take (v := .int .i64 y) 6 33 rfl ?_ (fun w' hw' => run_loadInt ((hw'.cell (p := ⟨b, o + i * 3 + 1, none⟩) HB.out).trans K1.out) rfl)
        refine Hb.take (v := .slice (some ⟨b, o, none⟩) nO cO) 7 34 rfl ?_ (fun _ _ => rfl)
        refine Hb.take (v := .int .i64 (i : Int)) 8 35 rfl ?_ (fun _ _ => rfl)
        refine Hb.take (v := .pointer (some ⟨b, o + i * 3, none⟩)) 9 36 rfl ?_ (fun w' hw' => by go_simp; first | done | rfl | omega | (simp; omega))
        refine Hb.take (v := .pointer (some ⟨b, o + i * 3 + 2, none⟩)) 10 37 rfl ?_ (fun w' hw' => by go_simp; first | done | rfl | omega)
        refine Hb.take (v := .int .i64 t) 11 38 rfl ?_ (fun w' hw' => run_loadI ((hw'.cell (p := ⟨b, o + i * 3 + 2, none⟩) HB.out).trans K2.out) rfl)
        refine Hb.call (f := 17) (args := #[.pointer (some ⟨g, 0, none⟩), .slice A3 l.length c3, .int .i64 y, .int .i64 t]) 12 39 rfl ?_ (run_callf Try.func17 (by kernel_rfl) (by kernel_rfl) (by simp only [List.map_toArray, List.map_cons, List.map_nil]; rfl))
        refine (SD.out.go LLH.out (by decide) y t).mono ?_
        rintro x w5 ⟨A5, c5, F5, rfl, -, s5, b5⟩
        have S5 := Lib.hid s5
        clear s5
        refine Hb.back b5 (Nat.le_refl _) ?_
        refine Hb.done ?_
        go_wp2_with fail
        go_roundw
        case rel => exact ⟨i + 1, F5, _, by go_num, by omega, by omega, S5⟩
        case measure => simp [intOf]; omega
      · have j2 : ¬ (i : Int) < 20 := by omega
        go_wp2_with fail
        refine (HS.out.go LLH.out (by decide) (l.length : Int) 1099511627781).mono ?_
        rintro x w6 ⟨A6, c6, F6, rfl, -, s6, -⟩
        have S6 := Lib.hid s6
        have ALL := Lib.hid (go_all (commit := (l.length : Int)) (now := 1099511627781) (T := T) (by decide) LLH.out.may (Int.le_refl _))
        clear s6 HS
        generalize T ++ PReady.go (l.length : Int) 1099511627781 T l = T6 at *
        go_wp2_with fail
        go_loopw [9] (fun s9 wr => ∃ j : Nat, s9 = .int .i64 j ∧ j ≤ l.length ∧ Hid (Sy w wr g F6 T6 A3 c3 l)) (fun s9 _ => l.length - (intOf s9).toNat)
        case atStart => exact ⟨0, rfl, by omega, S6⟩
        case round =>
          obtain ⟨j, rfl, hj, HQ⟩ := hrel
          clear S6
          by_cases h3 : j < l.length
          · obtain ⟨b, o, e, rfl, hb, he, hmem, d0, d1, d2, d3, d4, d5, d6⟩ := HQ.out.sx.rd.ent h3
            have HM := Lib.hid hmem
            clear hb he hmem
            go_wp2_with fail
            clear d0 d1 d2 d3 d4 d5 d6
            refine (show Calls Try.prog _ #[_, .agg #[.int .i64 e.fr, .int .i64 e.boot, .int .i64 e.seq, .int .i64 e.ord, .int .i64 e.lev, .int .i64 e.stamp, .string e.data]] wr _ from Has_c wr g F6 T6 HQ.out.sx.qu e (LLH.out.fit e HM.out)).mono ?_
            rw [ALL.out e HM.out]
            rintro x w7 ⟨rfl, b7⟩
            have S7 := Lib.hid (HQ.out.past b7)
            clear b7 HQ
            go_wp2_with fail
            go_roundw
            case rel => exact ⟨j + 1, by go_num, by omega, S7⟩
            case measure => simp [intOf]; omega
          · go_wp2_with fail
            refine (Told_c wr g F6 T6 HQ.out.sx.qu).mono ?_
            rintro x w7 ⟨A7, c7, rfl, -, b7⟩
            have HN := Lib.hid (show T6.length = l.length by have := HQ.out.cnt; have := unt_zero ALL.out; omega)
            rw [HN.out]
            go_wp2_with fail
            go_ret
            exact ⟨by simp, HQ.out.sx.bel.trans (b7.mono HQ.out.sx.bel.size)⟩
    · skip
      go_wp2_with fail
      refine (HS.out.go LLH.out (by decide) (l.length : Int) 1099511627781).mono ?_
      rintro x w6 ⟨A6, c6, F6, rfl, -, s6, -⟩
      have S6 := Lib.hid s6
      have ALL := Lib.hid (go_all (commit := (l.length : Int)) (now := 1099511627781) (T := T) (by decide) LLH.out.may (Int.le_refl _))
      clear s6 HS
      generalize T ++ PReady.go (l.length : Int) 1099511627781 T l = T6 at *
      go_wp2_with fail
      go_loopw [9] (fun s9 wr => ∃ j : Nat, s9 = .int .i64 j ∧ j ≤ l.length ∧ Hid (Sy w wr g F6 T6 A3 c3 l)) (fun s9 _ => l.length - (intOf s9).toNat)
      case atStart => exact ⟨0, rfl, by omega, S6⟩
      case round =>
        obtain ⟨j, rfl, hj, HQ⟩ := hrel
        clear S6
        by_cases h3 : j < l.length
        · obtain ⟨b, o, e, rfl, hb, he, hmem, d0, d1, d2, d3, d4, d5, d6⟩ := HQ.out.sx.rd.ent h3
          have HM := Lib.hid hmem
          clear hb he hmem
          go_wp2_with fail
          clear d0 d1 d2 d3 d4 d5 d6
          refine (show Calls Try.prog _ #[_, .agg #[.int .i64 e.fr, .int .i64 e.boot, .int .i64 e.seq, .int .i64 e.ord, .int .i64 e.lev, .int .i64 e.stamp, .string e.data]] wr _ from Has_c wr g F6 T6 HQ.out.sx.qu e (LLH.out.fit e HM.out)).mono ?_
          rw [ALL.out e HM.out]
          rintro x w7 ⟨rfl, b7⟩
          have S7 := Lib.hid (HQ.out.past b7)
          clear b7 HQ
          go_wp2_with fail
          go_roundw
          case rel => exact ⟨j + 1, by go_num, by omega, S7⟩
          case measure => simp [intOf]; omega
        · go_wp2_with fail
          refine (Told_c wr g F6 T6 HQ.out.sx.qu).mono ?_
          rintro x w7 ⟨A7, c7, rfl, -, b7⟩
          have HN := Lib.hid (show T6.length = l.length by have := HQ.out.cnt; have := unt_zero ALL.out; omega)
          rw [HN.out]
          go_wp2_with fail
          go_ret
          exact ⟨by simp, HQ.out.sx.bel.trans (b7.mono HQ.out.sx.bel.size)⟩
end Go.Proofs.Ythmcjehpmfebaaa
