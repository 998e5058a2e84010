/- The walk of ReadyStrict. -/
import Derived.Test.YthmcjehpmfebaaaReadyN
import Derived.Lib.MinMax
namespace Go.Proofs.Ythmcjehpmfebaaa
open Go.RowKit PReady

set_option maxHeartbeats 8000000 in
set_option maxRecDepth 100000 in
theorem ReadyStrict_w (w : World) (A0 : Option Addr) (c0 n0 : Nat) (z0 : List Int) (H00 : Rd w w.heap.size A0 c0 1 n0 (is z0)) (A1 : Option Addr) (c1 n1 : Nat) (z1 : List Int) (H10 : Rd w w.heap.size A1 c1 1 n1 (is z1)) :
    Calls Try.prog 9 #[.slice A0 n0 c0, .slice A1 n1 c1] w fun e w' => e = .returned (.bool true) ∧ Below w.heap.size w w' := by
  have H0 := Lib.hid H00
  have H1 := Lib.hid H10
  have hn1 : n1 ≤ 9223372036854775807 := by have := H10.le; have := H10.cap; unfold maxLen at this; omega
  clear H00 H10
  go_enter Try.func9, Try.ntmps9
  go_wp2_with fail
  refine (begun_c w).mono ?_
  rintro x w1 ⟨rfl, b1⟩
  have B1 := Lib.hid b1
  clear b1
  go_wp2_with fail
  refine (kinds_c w1 _ A0 c0 n0 z0 (H0.out.past B1.out) 1 2 (by decide) (by decide)).mono ?_
  rintro x w3 ⟨A3, c3, es, rfl, hle, ho3, hke, b3⟩
  have KLH := Lib.hid (show KL 1 2 es from ⟨hke, hle⟩)
  have O3 := Lib.hid (Rd.of_own ho3)
  have B3 := Lib.hid (B1.out.trans (b3.mono B1.out.size))
  clear hle ho3 hke b3 B1
  go_wp2_with fail
  refine (New_c w3).mono ?_
  rintro x w4 ⟨rfl, q4, b4⟩
  have S4 := Lib.hid (show Sx w w4 w3.heap.size [w3.heap.size] [] A3 c3 es.length es from Sx.made O3.out B3.out q4 b4)
  clear q4 b4
  obtain ⟨g, hg⟩ : ∃ g, w3.heap.size = g := ⟨_, rfl⟩
  rw [hg] at S4 ⊢
  clear hg O3 B3
  go_wp2_with fail
  have hll : (es.length : Int) ≤ 30 := by have := KLH.out.le; omega
  go_loopw [8, 9] (fun s8 s9 wr => ∃ (i f : Nat) (F : List Nat), s8 = .int .i64 f ∧ s9 = .int .i64 i ∧ i ≤ n1 ∧ i ≤ 20 ∧ f ≤ es.length ∧ Hid (Sx w wr g F (tk 0 (es.take f)) A3 c3 es.length es)) (fun _ s9 _ => n1 - (intOf s9).toNat)
  case atStart => exact ⟨0, 0, [g], rfl, rfl, by omega, by omega, by omega, S4⟩
  case round =>
    obtain ⟨i, f, F, rfl, rfl, hi, hi2, hf, HS⟩ := hrel
    clear S4
    by_cases h1 : i < n1
    · by_cases h2 : i < 20
      · have j2 : (i : Int) < 20 := by omega
        obtain ⟨b, o, cc, rfl, k0, -, hz⟩ := (H1.out.below HS.out.bel).int h1
        have HZ := Lib.hid hz
        clear hz
        have HLEN := Lib.hid (take_len hf)
        go_wp2_with fail
        clear k0
        refine (HS.out.go KLH.out.fit KLH.out.ap (by have := KLH.out.le; omega) (by have := KLH.out.le; have := HLEN.out; omega) cc 0).mono ?_
        rw [strict_go KLH.out cc hf]
        rintro x w5 ⟨A5, c5, F5, rfl, -, s5, -, -⟩
        obtain ⟨f', hf'⟩ : ∃ f', max f (min es.length cc.toNat) = f' := ⟨_, rfl⟩
        rw [hf'] at s5
        have hfar : max (f : Int) (min (es.length : Int) cc) = (f' : Int) := by omega
        have hfl : f' ≤ es.length := by omega
        have S5 := Lib.hid s5
        have k1 := Lib.hid ((H1.out.below S5.out.bel).int h1)
        clear s5 HS HLEN hf'
        obtain ⟨b', o', cc', hA, k1', -, hz'⟩ := k1.out
        cases hA
        obtain rfl : cc = cc' := HZ.out.trans hz'.symm
        clear hz' k1 HZ
        go_wp2_with fail
        clear k1' hfar
        refine (Told_c w5 g F5 _ S5.out.qu).mono ?_
        rw [take_len hfl]
        rintro x w6 ⟨A6, c6, rfl, o6, b6⟩
        have S6 := Lib.hid (S5.out.past b6)
        have O6 := Lib.hid (show Rd w6 w6.heap.size A6 c6 8 f' (tls (tk 0 (es.take f'))) from Rd.of_own o6)
        have jf : ((f' : Int) != (f' : Int)) = false := by simp
        clear o6 b6 S5
        go_wp2_with fail
        go_loopw [11] (fun s11 wr => ∃ k : Nat, s11 = .int .i64 k ∧ k ≤ f' ∧ Hid (Below w6.heap.size w6 wr)) (fun s11 _ => f' - (intOf s11).toNat)
        case atStart => exact ⟨0, rfl, by omega, Lib.hid (Below.refl _ _)⟩
        case round =>
          obtain ⟨k, rfl, hk, BK⟩ := hrel
          by_cases h3 : k < f'
          · obtain ⟨bt, ot, y, rfl, hbt, hy, -, hr⟩ := (O6.out.below BK.out).told h3
            obtain ⟨be, oe, e, rfl, hbe, he, -, hre⟩ := (S6.out.rd.below BK.out).entR (show k < es.length by omega)
            have hy' := tk_at (i := 0) (show (es.take f')[k]? = some e by rw [List.getElem?_take, if_pos h3]; exact he)
            obtain rfl : y = ((0 : Nat) + (k : Int) + 1, e) := by have := hy.symm.trans hy'; exact Option.some.inj this
            have HR := Lib.hid (show wr.drew.rangeAt bt (ot + k * 8) (tcs ((k : Int) + 1, e)) from by simpa using hr)
            have HRE := Lib.hid (show wr.drew.rangeAt be (oe + k * 7) (ecs e) from hre)
            have HBT := Lib.hid (show bt < wr.drew.heap.size from Nat.lt_of_lt_of_le hbt BK.out.size)
            have HBE := Lib.hid (show be < wr.drew.heap.size from Nat.lt_of_lt_of_le hbe BK.out.size)
            have HE := Lib.hid (show PEnt.eqE e e = true from (PEnt.eqE_iff _ _).2 rfl)
            have jk : (((k : Int) + 1) != ((k : Int) + 1)) = false := by simp
            clear hbt hy hr hbe he hre hy'
            go_wp2_with fail
            refine Hb.begin ?_
            refine Hb.take (v := .slice (some ⟨bt, ot, none⟩) f' c6) 0 55 rfl ?_ (fun _ _ => rfl)
            refine Hb.take (v := .int .i64 (k : Int)) 1 56 rfl ?_ (fun _ _ => rfl)
            refine Hb.take (v := .pointer (some ⟨bt, ot + k * 8, none⟩)) 2 57 rfl ?_ (fun w' hw' => by go_simp; first | done | rfl | omega | (simp; omega))
            refine Hb.take (v := .pointer (some ⟨bt, ot + k * 8, none⟩)) 3 58 rfl ?_ (fun w' hw' => by go_simp; first | done | rfl | omega)
            refine Hb.take (v := .int .i64 ((k : Int) + 1)) 4 59 rfl ?_ (fun w' hw' => run_loadInt (range_at (rangeAt_below HR.out hw' HBT.out)) rfl)
            refine Hb.take (v := .int .i64 (k : Int)) 5 60 rfl ?_ (fun _ _ => rfl)
            refine Hb.take (v := .int .i64 ((k : Int) + 1)) 6 61 rfl ?_ (fun w' hw' => by go_simp; first | done | rfl | omega | exact wrap_in (by omega) (by omega))
            refine Hb.take (v := .bool false) 7 62 rfl ?_ (fun w' hw' => by go_simp)
            refine Hb.take (v := .bool false) 8 63 rfl ?_ (fun _ _ => rfl)
            refine Hb.take (v := .slice (some ⟨bt, ot, none⟩) f' c6) 9 64 rfl ?_ (fun _ _ => rfl)
            refine Hb.take (v := .int .i64 (k : Int)) 10 65 rfl ?_ (fun _ _ => rfl)
            refine Hb.take (v := .pointer (some ⟨bt, ot + k * 8, none⟩)) 11 66 rfl ?_ (fun w' hw' => by go_simp; first | done | rfl | omega | (simp; omega))
            refine Hb.take (v := .pointer (some ⟨bt, ot + k * 8 + 1, none⟩)) 12 67 rfl ?_ (fun w' hw' => by go_simp; first | done | rfl | omega)
            refine Hb.take (v := ev e) 13 68 rfl ?_ (fun w' hw' => run_loadE (range_ent (rangeAt_below HR.out hw' HBT.out)) rfl)
            refine Hb.take (v := .slice (some ⟨be, oe, none⟩) es.length c3) 14 69 rfl ?_ (fun _ _ => rfl)
            refine Hb.take (v := .int .i64 (k : Int)) 15 70 rfl ?_ (fun _ _ => rfl)
            refine Hb.take (v := .pointer (some ⟨be, oe + k * 7, none⟩)) 16 71 rfl ?_ (fun w' hw' => by go_simp; first | done | rfl | omega | (simp; omega))
            refine Hb.take (v := ev e) 17 72 rfl ?_ (fun w' hw' => run_loadE (rangeAt_below HRE.out hw' HBE.out) rfl)
            refine Hb.call (f := 24) (args := #[ev e, ev e]) 18 73 rfl ?_ (run_callf Try.func24 (by kernel_rfl) (by kernel_rfl) (by simp only [List.map_toArray, List.map_cons, List.map_nil]; rfl))
            refine (rEq_c wr.drew e e).mono ?_
            rw [HE.out]
            rintro x w7 ⟨rfl, b7⟩
            refine Hb.back b7 (Nat.le_refl _) ?_
            refine Hb.take (v := .bool false) 19 74 rfl ?_ (fun w' hw' => by go_simp)
            refine Hb.take (v := .bool false) 20 75 rfl ?_ (fun _ _ => rfl)
            refine Hb.done ?_
            go_wp2_with fail
            go_roundw
            case rel => exact ⟨k + 1, by go_num, by omega, Lib.hid (BK.out.drew.trans (b7.mono BK.out.size))⟩
            case measure => simp [intOf]; omega
          · have S7 := Lib.hid (S6.out.past BK.out)
            go_wp2_with fail
            go_roundw
            case rel => exact ⟨i + 1, f', F5, rfl, by go_num, by omega, by omega, by omega, S7⟩
            case measure => simp [intOf]; omega
      · have j2 : ¬ (i : Int) < 20 := by omega
        go_wp2_with fail
        go_ret
        exact ⟨rfl, HS.out.bel⟩
    · go_wp2_with fail
      go_ret
      exact ⟨rfl, HS.out.bel⟩
end Go.Proofs.Ythmcjehpmfebaaa
