/- The walk of ReadyOrder. -/
import Derived.Test.YthmcjehpmfebaaaReadyN
namespace Go.Proofs.Ythmcjehpmfebaaa
open Go.RowKit PReady

/-- The place of the last one of an order among the first ones: 0 if there is none. -/
structure La (T : List Tl) (k : Nat) (o v : Int) : Prop where
  zero : v = 0 ∨ ∃ (j : Nat) (t : Tl), j < k ∧ T[j]? = some t ∧ t.2.ord = o ∧ t.1 = v
theorem La.nil (T : List Tl) (o : Int) : La T 0 o 0 := ⟨.inl rfl⟩
theorem La.stay {T : List Tl} {k : Nat} {o v : Int} (h : La T k o v) : La T (k + 1) o v := ⟨h.zero.imp id (fun ⟨j, t, h1, h2, h3, h4⟩ => ⟨j, t, Nat.lt_succ_of_lt h1, h2, h3, h4⟩)⟩
theorem La.now {T : List Tl} {k : Nat} {t : Tl} (ht : T[k]? = some t) : La T (k + 1) t.2.ord t.1 := ⟨.inr ⟨k, t, Nat.lt_succ_self _, ht, rfl, rfl⟩⟩
/-- The next one's place is greater. -/
theorem La.lt {es : List Ent} {T : List Tl} {k : Nat} {v : Int} {t : Tl} (h : La T k t.2.ord v) (hS : Srt es T) (ht : T[k]? = some t) (ho : t.2.ord = 1 ∨ t.2.ord = 2) : ¬ t.1 ≤ v := by
  obtain ⟨hk, he⟩ := List.getElem?_eq_some_iff.1 ht
  rcases h.zero with rfl | ⟨j, s, hj, hs, h1, h2⟩
  · obtain ⟨q, _, hq⟩ := hS.at' t (List.mem_of_getElem? ht)
    omega
  · obtain ⟨hj', hes⟩ := List.getElem?_eq_some_iff.1 hs
    have h3 := (List.pairwise_iff_getElem.1 hS.so) j k hj' hk hj
    rw [hes, he] at h3
    have := h3 h1 (by rw [h1]; exact ho)
    omega
/-- What the loop over what was told holds. -/
structure LS3 (w wr : World) (T : List Tl) (k : Nat) (g : Nat) (a b c : Int) : Prop where
  blk : Blk wr g 48 [.int .i64 a, .int .i64 b, .int .i64 c]
  bel : Below w.heap.size w wr
  la1 : La T k 1 b
  la2 : La T k 2 c

set_option maxHeartbeats 16000000 in
set_option maxRecDepth 100000 in
theorem ReadyOrder_w (w : World) (A0 : Option Addr) (c0 n0 : Nat) (z0 : List Int) (H00 : Rd w w.heap.size A0 c0 1 n0 (is z0)) (AO : Option Addr) (cO nO : Nat) (zO : List Value) (HO0 : Rd w w.heap.size AO cO 3 nO zO) (yO : AllI zO) :
    Calls Try.prog 8 #[.slice A0 n0 c0, .slice AO nO cO] w fun e w' => e = .returned (.bool true) ∧ Below w.heap.size w w' := by
  have H0 := Lib.hid H00
  have HO := Lib.hid HO0
  have YO := Lib.hid yO
  have hnO : nO ≤ 9223372036854775807 := by have := HO0.le; have := HO0.cap; unfold maxLen at this; omega
  clear H00 HO0 yO
  go_enter Try.func8, Try.ntmps8
  go_wp2_with fail
  refine (begun_c w).mono ?_
  rintro x w1 ⟨rfl, b1⟩
  have B1 := Lib.hid b1
  clear b1
  go_wp2_with fail
  refine (kinds_c w1 _ A0 c0 n0 z0 (H0.out.past B1.out) (-1) (-1) (by decide) (by decide)).mono ?_
  rintro x w3 ⟨A3, c3, es, rfl, hle, ho3, hke, b3⟩
  have KLH := Lib.hid (show KL (-1) (-1) es from ⟨hke, hle⟩)
  have O3 := Lib.hid (Rd.of_own ho3)
  have B3 := Lib.hid (B1.out.trans (b3.mono B1.out.size))
  clear hle ho3 hke b3 B1
  go_wp2_with fail
  refine (New_c w3).mono ?_
  rintro x w4 ⟨rfl, q4, b4⟩
  have S4 := Lib.hid (show Sx w w4 w3.heap.size [w3.heap.size] [] A3 c3 es.length es from Sx.made O3.out B3.out q4 b4)
  clear q4 b4
  obtain ⟨g, hg⟩ : ∃ g, w3.heap.size = g := ⟨_, rfl⟩
  rw [hg] at S4 ⊢
  clear hg O3 B3
  go_wp2_with fail
  go_loopw [8] (fun s8 wr => ∃ (i : Nat) (F : List Nat) (T : List Tl), s8 = .int .i64 i ∧ i ≤ nO ∧ i ≤ 30 ∧ Hid (Sx w wr g F T A3 c3 es.length es) ∧ Hid (T.length ≤ 30 * i) ∧ Hid (Srt es T)) (fun s8 _ => nO - (intOf s8).toNat)
  case atStart => exact ⟨0, [g], [], rfl, by omega, by omega, S4, Lib.hid (by simp), Lib.hid (srt_nil es)⟩
  case round =>
    obtain ⟨i, F, T, rfl, hi, hi2, HS, HT, HSRT⟩ := hrel
    clear S4
    by_cases h1 : i < nO
    · by_cases h2 : i < 30
      · have j2 : (i : Int) < 30 := by omega
        obtain ⟨b, o, x, y, t, rfl, hb, k0, k1, k2, -, -, -⟩ := (HO.out.below HS.out.bel).op YO.out h1
        have HB := Lib.hid hb
        have K1 := Lib.hid k1
        have K2 := Lib.hid k2
        clear k0 k1 k2 hb
        go_wp2_with fail
        have SD := Lib.hid HS.out.drew
        refine Hb.beginB (B := w.heap.size) ?_
        refine Hb.take (v := .pointer (some ⟨g, 0, none⟩)) 0 29 rfl ?_ (fun _ _ => rfl)
        refine Hb.take (v := .slice A3 es.length c3) 1 30 rfl ?_ (fun _ _ => rfl)
        refine Hb.take (v := .slice (some ⟨b, o, none⟩) nO cO) 2 31 rfl ?_ (fun _ _ => rfl)
        refine Hb.take (v := .int .i64 (i : Int)) 3 32 rfl ?_ (fun _ _ => rfl)
        refine Hb.take (v := .pointer (some ⟨b, o + i * 3, none⟩)) 4 33 rfl ?_ (fun w' hw' => by go_simp; first | done | rfl | omega | (simp; omega))
        refine Hb.take (v := .pointer (some ⟨b, o + i * 3 + 1, none⟩)) 5 34 rfl ?_ (fun w' hw' => by go_simp; first | done | rfl | omega)
        refine Hb.take (v := .int .i64 y) 6 35 rfl ?_ (fun w' hw' => run_loadInt ((hw'.cell (p := ⟨b, o + i * 3 + 1, none⟩) HB.out).trans K1.out) rfl)
        refine Hb.take (v := .slice (some ⟨b, o, none⟩) nO cO) 7 36 rfl ?_ (fun _ _ => rfl)
        refine Hb.take (v := .int .i64 (i : Int)) 8 37 rfl ?_ (fun _ _ => rfl)
        refine Hb.take (v := .pointer (some ⟨b, o + i * 3, none⟩)) 9 38 rfl ?_ (fun w' hw' => by go_simp; first | done | rfl | omega | (simp; omega))
        refine Hb.take (v := .pointer (some ⟨b, o + i * 3 + 2, none⟩)) 10 39 rfl ?_ (fun w' hw' => by go_simp; first | done | rfl | omega)
        refine Hb.take (v := .int .i64 t) 11 40 rfl ?_ (fun w' hw' => run_loadI ((hw'.cell (p := ⟨b, o + i * 3 + 2, none⟩) HB.out).trans K2.out) rfl)
        refine Hb.call (f := 17) (args := #[.pointer (some ⟨g, 0, none⟩), .slice A3 es.length c3, .int .i64 y, .int .i64 t]) 12 41 rfl ?_ (run_callf Try.func17 (by kernel_rfl) (by kernel_rfl) (by simp only [List.map_toArray, List.map_cons, List.map_nil]; rfl))
        refine (SD.out.go KLH.out.fit KLH.out.ap (by have := KLH.out.le; omega) (by have := KLH.out.le; have := HT.out; omega) y t).mono ?_
        rintro x w5 ⟨A5, c5, F5, rfl, -, s5, -, t5⟩
        have b5 := t5.below SD.out.low SD.out.bel.size
        have S5 := Lib.hid s5
        have HT5 := Lib.hid (show (T ++ go y t T es).length ≤ 30 * (i + 1) by have := go_len y t T es; have := KLH.out.le; have := HT.out; simp only [List.length_append]; omega)
        have HSRT5 := Lib.hid (go_srt (commit := y) (now := t) HSRT.out)
        clear s5 t5
        refine Hb.back b5 (Nat.le_refl _) ?_
        refine Hb.done ?_
        go_wp2_with fail
        go_roundw
        case rel => exact ⟨i + 1, F5, _, by go_num, by omega, by omega, S5, HT5, HSRT5⟩
        case measure => simp [intOf]; omega
      · have j2 : ¬ (i : Int) < 30 := by omega
        go_wp2_with fail
        have K9 := Blk.new wr #[.int .i64 0, .int .i64 0, .int .i64 0] 48
        have S9 := Lib.hid (HS.out.past ((Below.refl wr.heap.size wr).alloc (Nat.le_refl _) (.cells #[.int .i64 0, .int .i64 0, .int .i64 0] 48)))
        have HGA := Lib.hid (show w.heap.size ≤ wr.heap.size from HS.out.bel.size)
        have K9' := Lib.hid K9
        clear HS K9
        generalize hga : wr.heap.size = ga at *
        generalize (wr.alloc (.cells #[.int .i64 0, .int .i64 0, .int .i64 0] 48)) = w5 at *
        refine (Told_c w5 g F T S9.out.qu).mono ?_
        obtain ⟨m, hm⟩ : ∃ m, T.length = m := ⟨_, rfl⟩
        rw [hm]
        rintro x w6 ⟨A6, c6, rfl, o6, b6⟩
        have O6 := Lib.hid (show Rd w6 w6.heap.size A6 c6 8 m (tls T) from Rd.of_own o6)
        have HSEP := Lib.hid (show bk A6 ≠ some ga from (Ow.of_own o6).ne (K9'.out.past b6) (by decide))
        have ST6 := Lib.hid (show LS3 w w6 T 0 ga 0 0 0 from ⟨K9'.out.past b6, S9.out.bel.trans (b6.mono S9.out.bel.size), La.nil _ _, La.nil _ _⟩)
        have hmb : m ≤ 9223372036854775807 := by have := HT.out; omega
        clear o6 b6 S9 K9' hga
        go_wp2_with fail
        go_loopw [11] (fun s11 wr => ∃ (k : Nat) (a b c : Int), s11 = .int .i64 k ∧ k ≤ m ∧ Hid (LS3 w wr T k ga a b c) ∧ Hid (Rd wr w6.heap.size A6 c6 8 m (tls T))) (fun s11 _ => m - (intOf s11).toNat)
        case atStart => exact ⟨0, 0, 0, 0, rfl, by omega, ST6, O6⟩
        case round =>
          obtain ⟨k, a, b, c, rfl, hk, HST, HRT⟩ := hrel
          clear ST6 O6
          by_cases h3 : k < m
          · obtain ⟨bt, ot, y, rfl, hbt, hy, hmem, hr⟩ := HRT.out.tight.told h3
            have HY := Lib.hid hy
            have HR := Lib.hid (show wr.drew.rangeAt bt (ot + k * 8) (tcs y) from hr)
            have HBT := Lib.hid (show bt < wr.heap.size from hbt)
            have HBL := Lib.hid (show Blk wr.drew ga 48 _ from HST.out.blk)
            have HGL := Lib.hid (show ga < wr.heap.size from HST.out.blk.lt)
            have r3 := show wr.cell? ⟨bt, ot + k * 8 + 1 + 3, none⟩ = some (.int .i64 y.2.ord) from (range_ent hr) 3 _ rfl
            obtain ⟨q, hq, hq2⟩ := HSRT.out.at' y hmem
            have hoo := (KLH.out.ke q y.2 hq).ord
            clear hbt hy hmem hr hq hq2
            rcases (by omega : y.2.ord = 0 ∨ y.2.ord = 1 ∨ y.2.ord = 2) with ho | ho | ho
            · as_aux_lemma =>
                have HO := Lib.hid ho
                rw [ho] at r3
                clear ho
                have f0 := HST.out.blk.free 0
                have q0 := HST.out.blk.cell (i := 0) rfl
                go_wp2_with fail
                refine Hb.begin ?_
                refine Hb.take (v := .int .i64 0) 0 57 rfl ?_ (fun _ _ => rfl)
                refine Hb.take (v := .bool false) 1 58 rfl ?_ (fun w' hw' => by go_simp)
                refine Hb.take (v := .bool false) 2 59 rfl ?_ (fun _ _ => rfl)
                refine Hb.pass 3 60 rfl ?_
                refine Hb.pass 4 61 rfl ?_
                refine Hb.pass 5 62 rfl ?_
                refine Hb.pass 6 63 rfl ?_
                refine Hb.pass 7 64 rfl ?_
                refine Hb.pass 8 65 rfl ?_
                refine Hb.pass 9 66 rfl ?_
                refine Hb.pass 10 67 rfl ?_
                refine Hb.pass 11 68 rfl ?_
                refine Hb.take (v := .bool false) 12 69 rfl ?_ (fun _ _ => rfl)
                refine Hb.done ?_

                have q1 := show wr.drew.cell? ⟨ga, 0, none⟩ = some (.int .i64 a) from q0
                have f1 := show wr.drew.frozen? ⟨ga, 0, none⟩ = false from f0
                have r1 := show wr.drew.cell? ⟨bt, ot + k * 8, none⟩ = some (.int .i64 y.1) from range_at HR.out
                have NX := Lib.hid (show LS3 w (wr.drew.setCell ⟨ga, 0, none⟩ (.int .i64 y.1)) T (k + 1) ga y.1 b c from
                  ⟨by have := (show Blk wr.drew ga 48 _ from HST.out.blk).set 0 (.int .i64 y.1); simpa using this, HST.out.bel.drew.grown (grown_set _ _ _ _) HST.out.bel.drew.size (fun q hq => by cases hq; exact HGA.out), HST.out.la1.stay, HST.out.la2.stay⟩)
                have RN := Lib.hid (show Rd (wr.drew.setCell ⟨ga, 0, none⟩ (.int .i64 y.1)) _ (some ⟨bt, ot, none⟩) c6 8 m (tls T) from (HRT.out.drew).touch (Touch.of_grown (grown_set _ _ _ _)) (fun hz s hs => by rw [List.mem_singleton.1 hs]; exact HSEP.out))
                clear HST HR HBL
                go_wp2_with fail
                go_roundw
                case rel => exact ⟨k + 1, y.1, b, c, by go_num, by omega, NX, RN⟩
                case measure => simp [intOf]; omega
            · as_aux_lemma =>
                have HO := Lib.hid ho
                rw [ho] at r3
                clear ho
                have jlt : ¬ y.1 ≤ b := La.lt (by rw [HO.out]; exact HST.out.la1) HSRT.out HY.out (by rw [HO.out]; decide)
                have f0 := HST.out.blk.free 1
                have q0 := HST.out.blk.cell (i := 1) rfl
                go_wp2_with fail
                refine Hb.begin ?_
                refine Hb.take (v := .int .i64 1) 0 57 rfl ?_ (fun _ _ => rfl)
                refine Hb.take (v := .bool true) 1 58 rfl ?_ (fun w' hw' => by go_simp)
                refine Hb.take (v := .bool true) 2 59 rfl ?_ (fun _ _ => rfl)
                refine Hb.take (v := .slice (some ⟨bt, ot, none⟩) m c6) 3 60 rfl ?_ (fun _ _ => rfl)
                refine Hb.take (v := .int .i64 (k : Int)) 4 61 rfl ?_ (fun _ _ => rfl)
                refine Hb.take (v := .pointer (some ⟨bt, ot + k * 8, none⟩)) 5 62 rfl ?_ (fun w' hw' => by go_simp; first | done | rfl | omega | (simp; omega))
                refine Hb.take (v := .pointer (some ⟨bt, ot + k * 8, none⟩)) 6 63 rfl ?_ (fun w' hw' => by go_simp; first | done | rfl | omega)
                refine Hb.take (v := .int .i64 y.1) 7 64 rfl ?_ (fun w' hw' => run_loadInt (range_at (rangeAt_below HR.out hw' HBT.out)) rfl)
                refine Hb.take (v := .int .i64 1) 8 65 rfl ?_ (fun _ _ => rfl)
                refine Hb.take (v := .pointer (some ⟨ga, 1, none⟩)) 9 66 rfl ?_ (fun w' hw' => by go_simp; first | done | rfl | omega | (simp; omega))
                refine Hb.take (v := .int .i64 b) 10 67 rfl ?_ (fun w' hw' => run_loadInt ((HBL.out.below hw' HGL.out).cell (i := 1) rfl) rfl)
                refine Hb.take (v := .bool false) 11 68 rfl ?_ (fun w' hw' => by go_simp; first | done | rfl | omega | (simp; omega))
                refine Hb.take (v := .bool false) 12 69 rfl ?_ (fun _ _ => rfl)
                refine Hb.done ?_

                have q1 := show wr.drew.cell? ⟨ga, 1, none⟩ = some (.int .i64 b) from q0
                have f1 := show wr.drew.frozen? ⟨ga, 1, none⟩ = false from f0
                have r1 := show wr.drew.cell? ⟨bt, ot + k * 8, none⟩ = some (.int .i64 y.1) from range_at HR.out
                have NX := Lib.hid (show LS3 w (wr.drew.setCell ⟨ga, 1, none⟩ (.int .i64 y.1)) T (k + 1) ga a y.1 c from
                  ⟨by have := (show Blk wr.drew ga 48 _ from HST.out.blk).set 1 (.int .i64 y.1); simpa using this, HST.out.bel.drew.grown (grown_set _ _ _ _) HST.out.bel.drew.size (fun q hq => by cases hq; exact HGA.out), (by have := La.now HY.out; rw [HO.out] at this; exact this), HST.out.la2.stay⟩)
                have RN := Lib.hid (show Rd (wr.drew.setCell ⟨ga, 1, none⟩ (.int .i64 y.1)) _ (some ⟨bt, ot, none⟩) c6 8 m (tls T) from (HRT.out.drew).touch (Touch.of_grown (grown_set _ _ _ _)) (fun hz s hs => by rw [List.mem_singleton.1 hs]; exact HSEP.out))
                clear HST HR HBL
                go_wp2_with fail
                go_roundw
                case rel => exact ⟨k + 1, a, y.1, c, by go_num, by omega, NX, RN⟩
                case measure => simp [intOf]; omega
            · as_aux_lemma =>
                have HO := Lib.hid ho
                rw [ho] at r3
                clear ho
                have jlt : ¬ y.1 ≤ c := La.lt (by rw [HO.out]; exact HST.out.la2) HSRT.out HY.out (by rw [HO.out]; decide)
                have f0 := HST.out.blk.free 2
                have q0 := HST.out.blk.cell (i := 2) rfl
                go_wp2_with fail
                refine Hb.begin ?_
                refine Hb.take (v := .int .i64 2) 0 57 rfl ?_ (fun _ _ => rfl)
                refine Hb.take (v := .bool true) 1 58 rfl ?_ (fun w' hw' => by go_simp)
                refine Hb.take (v := .bool true) 2 59 rfl ?_ (fun _ _ => rfl)
                refine Hb.take (v := .slice (some ⟨bt, ot, none⟩) m c6) 3 60 rfl ?_ (fun _ _ => rfl)
                refine Hb.take (v := .int .i64 (k : Int)) 4 61 rfl ?_ (fun _ _ => rfl)
                refine Hb.take (v := .pointer (some ⟨bt, ot + k * 8, none⟩)) 5 62 rfl ?_ (fun w' hw' => by go_simp; first | done | rfl | omega | (simp; omega))
                refine Hb.take (v := .pointer (some ⟨bt, ot + k * 8, none⟩)) 6 63 rfl ?_ (fun w' hw' => by go_simp; first | done | rfl | omega)
                refine Hb.take (v := .int .i64 y.1) 7 64 rfl ?_ (fun w' hw' => run_loadInt (range_at (rangeAt_below HR.out hw' HBT.out)) rfl)
                refine Hb.take (v := .int .i64 2) 8 65 rfl ?_ (fun _ _ => rfl)
                refine Hb.take (v := .pointer (some ⟨ga, 2, none⟩)) 9 66 rfl ?_ (fun w' hw' => by go_simp; first | done | rfl | omega | (simp; omega))
                refine Hb.take (v := .int .i64 c) 10 67 rfl ?_ (fun w' hw' => run_loadInt ((HBL.out.below hw' HGL.out).cell (i := 2) rfl) rfl)
                refine Hb.take (v := .bool false) 11 68 rfl ?_ (fun w' hw' => by go_simp; first | done | rfl | omega | (simp; omega))
                refine Hb.take (v := .bool false) 12 69 rfl ?_ (fun _ _ => rfl)
                refine Hb.done ?_

                have q1 := show wr.drew.cell? ⟨ga, 2, none⟩ = some (.int .i64 c) from q0
                have f1 := show wr.drew.frozen? ⟨ga, 2, none⟩ = false from f0
                have r1 := show wr.drew.cell? ⟨bt, ot + k * 8, none⟩ = some (.int .i64 y.1) from range_at HR.out
                have NX := Lib.hid (show LS3 w (wr.drew.setCell ⟨ga, 2, none⟩ (.int .i64 y.1)) T (k + 1) ga a b y.1 from
                  ⟨by have := (show Blk wr.drew ga 48 _ from HST.out.blk).set 2 (.int .i64 y.1); simpa using this, HST.out.bel.drew.grown (grown_set _ _ _ _) HST.out.bel.drew.size (fun q hq => by cases hq; exact HGA.out), HST.out.la1.stay, (by have := La.now HY.out; rw [HO.out] at this; exact this)⟩)
                have RN := Lib.hid (show Rd (wr.drew.setCell ⟨ga, 2, none⟩ (.int .i64 y.1)) _ (some ⟨bt, ot, none⟩) c6 8 m (tls T) from (HRT.out.drew).touch (Touch.of_grown (grown_set _ _ _ _)) (fun hz s hs => by rw [List.mem_singleton.1 hs]; exact HSEP.out))
                clear HST HR HBL
                go_wp2_with fail
                go_roundw
                case rel => exact ⟨k + 1, a, b, y.1, by go_num, by omega, NX, RN⟩
                case measure => simp [intOf]; omega
          · go_wp2_with fail
            go_ret
            exact ⟨rfl, HST.out.bel⟩
    · skip
      go_wp2_with fail
      have K9 := Blk.new wr #[.int .i64 0, .int .i64 0, .int .i64 0] 48
      have S9 := Lib.hid (HS.out.past ((Below.refl wr.heap.size wr).alloc (Nat.le_refl _) (.cells #[.int .i64 0, .int .i64 0, .int .i64 0] 48)))
      have HGA := Lib.hid (show w.heap.size ≤ wr.heap.size from HS.out.bel.size)
      have K9' := Lib.hid K9
      clear HS K9
      generalize hga : wr.heap.size = ga at *
      generalize (wr.alloc (.cells #[.int .i64 0, .int .i64 0, .int .i64 0] 48)) = w5 at *
      refine (Told_c w5 g F T S9.out.qu).mono ?_
      obtain ⟨m, hm⟩ : ∃ m, T.length = m := ⟨_, rfl⟩
      rw [hm]
      rintro x w6 ⟨A6, c6, rfl, o6, b6⟩
      have O6 := Lib.hid (show Rd w6 w6.heap.size A6 c6 8 m (tls T) from Rd.of_own o6)
      have HSEP := Lib.hid (show bk A6 ≠ some ga from (Ow.of_own o6).ne (K9'.out.past b6) (by decide))
      have ST6 := Lib.hid (show LS3 w w6 T 0 ga 0 0 0 from ⟨K9'.out.past b6, S9.out.bel.trans (b6.mono S9.out.bel.size), La.nil _ _, La.nil _ _⟩)
      have hmb : m ≤ 9223372036854775807 := by have := HT.out; omega
      clear o6 b6 S9 K9' hga
      go_wp2_with fail
      go_loopw [11] (fun s11 wr => ∃ (k : Nat) (a b c : Int), s11 = .int .i64 k ∧ k ≤ m ∧ Hid (LS3 w wr T k ga a b c) ∧ Hid (Rd wr w6.heap.size A6 c6 8 m (tls T))) (fun s11 _ => m - (intOf s11).toNat)
      case atStart => exact ⟨0, 0, 0, 0, rfl, by omega, ST6, O6⟩
      case round =>
        obtain ⟨k, a, b, c, rfl, hk, HST, HRT⟩ := hrel
        clear ST6 O6
        by_cases h3 : k < m
        · obtain ⟨bt, ot, y, rfl, hbt, hy, hmem, hr⟩ := HRT.out.tight.told h3
          have HY := Lib.hid hy
          have HR := Lib.hid (show wr.drew.rangeAt bt (ot + k * 8) (tcs y) from hr)
          have HBT := Lib.hid (show bt < wr.heap.size from hbt)
          have HBL := Lib.hid (show Blk wr.drew ga 48 _ from HST.out.blk)
          have HGL := Lib.hid (show ga < wr.heap.size from HST.out.blk.lt)
          have r3 := show wr.cell? ⟨bt, ot + k * 8 + 1 + 3, none⟩ = some (.int .i64 y.2.ord) from (range_ent hr) 3 _ rfl
          obtain ⟨q, hq, hq2⟩ := HSRT.out.at' y hmem
          have hoo := (KLH.out.ke q y.2 hq).ord
          clear hbt hy hmem hr hq hq2
          rcases (by omega : y.2.ord = 0 ∨ y.2.ord = 1 ∨ y.2.ord = 2) with ho | ho | ho
          · as_aux_lemma =>
              have HO := Lib.hid ho
              rw [ho] at r3
              clear ho
              have f0 := HST.out.blk.free 0
              have q0 := HST.out.blk.cell (i := 0) rfl
              go_wp2_with fail
              refine Hb.begin ?_
              refine Hb.take (v := .int .i64 0) 0 57 rfl ?_ (fun _ _ => rfl)
              refine Hb.take (v := .bool false) 1 58 rfl ?_ (fun w' hw' => by go_simp)
              refine Hb.take (v := .bool false) 2 59 rfl ?_ (fun _ _ => rfl)
              refine Hb.pass 3 60 rfl ?_
              refine Hb.pass 4 61 rfl ?_
              refine Hb.pass 5 62 rfl ?_
              refine Hb.pass 6 63 rfl ?_
              refine Hb.pass 7 64 rfl ?_
              refine Hb.pass 8 65 rfl ?_
              refine Hb.pass 9 66 rfl ?_
              refine Hb.pass 10 67 rfl ?_
              refine Hb.pass 11 68 rfl ?_
              refine Hb.take (v := .bool false) 12 69 rfl ?_ (fun _ _ => rfl)
              refine Hb.done ?_

              have q1 := show wr.drew.cell? ⟨ga, 0, none⟩ = some (.int .i64 a) from q0
              have f1 := show wr.drew.frozen? ⟨ga, 0, none⟩ = false from f0
              have r1 := show wr.drew.cell? ⟨bt, ot + k * 8, none⟩ = some (.int .i64 y.1) from range_at HR.out
              have NX := Lib.hid (show LS3 w (wr.drew.setCell ⟨ga, 0, none⟩ (.int .i64 y.1)) T (k + 1) ga y.1 b c from
                ⟨by have := (show Blk wr.drew ga 48 _ from HST.out.blk).set 0 (.int .i64 y.1); simpa using this, HST.out.bel.drew.grown (grown_set _ _ _ _) HST.out.bel.drew.size (fun q hq => by cases hq; exact HGA.out), HST.out.la1.stay, HST.out.la2.stay⟩)
              have RN := Lib.hid (show Rd (wr.drew.setCell ⟨ga, 0, none⟩ (.int .i64 y.1)) _ (some ⟨bt, ot, none⟩) c6 8 m (tls T) from (HRT.out.drew).touch (Touch.of_grown (grown_set _ _ _ _)) (fun hz s hs => by rw [List.mem_singleton.1 hs]; exact HSEP.out))
              clear HST HR HBL
              go_wp2_with fail
              go_roundw
              case rel => exact ⟨k + 1, y.1, b, c, by go_num, by omega, NX, RN⟩
              case measure => simp [intOf]; omega
          · as_aux_lemma =>
              have HO := Lib.hid ho
              rw [ho] at r3
              clear ho
              have jlt : ¬ y.1 ≤ b := La.lt (by rw [HO.out]; exact HST.out.la1) HSRT.out HY.out (by rw [HO.out]; decide)
              have f0 := HST.out.blk.free 1
              have q0 := HST.out.blk.cell (i := 1) rfl
              go_wp2_with fail
              refine Hb.begin ?_
              refine Hb.take (v := .int .i64 1) 0 57 rfl ?_ (fun _ _ => rfl)
              refine Hb.take (v := .bool true) 1 58 rfl ?_ (fun w' hw' => by go_simp)
              refine Hb.take (v := .bool true) 2 59 rfl ?_ (fun _ _ => rfl)
              refine Hb.take (v := .slice (some ⟨bt, ot, none⟩) m c6) 3 60 rfl ?_ (fun _ _ => rfl)
              refine Hb.take (v := .int .i64 (k : Int)) 4 61 rfl ?_ (fun _ _ => rfl)
              refine Hb.take (v := .pointer (some ⟨bt, ot + k * 8, none⟩)) 5 62 rfl ?_ (fun w' hw' => by go_simp; first | done | rfl | omega | (simp; omega))
              refine Hb.take (v := .pointer (some ⟨bt, ot + k * 8, none⟩)) 6 63 rfl ?_ (fun w' hw' => by go_simp; first | done | rfl | omega)
              refine Hb.take (v := .int .i64 y.1) 7 64 rfl ?_ (fun w' hw' => run_loadInt (range_at (rangeAt_below HR.out hw' HBT.out)) rfl)
              refine Hb.take (v := .int .i64 1) 8 65 rfl ?_ (fun _ _ => rfl)
              refine Hb.take (v := .pointer (some ⟨ga, 1, none⟩)) 9 66 rfl ?_ (fun w' hw' => by go_simp; first | done | rfl | omega | (simp; omega))
              refine Hb.take (v := .int .i64 b) 10 67 rfl ?_ (fun w' hw' => run_loadInt ((HBL.out.below hw' HGL.out).cell (i := 1) rfl) rfl)
              refine Hb.take (v := .bool false) 11 68 rfl ?_ (fun w' hw' => by go_simp; first | done | rfl | omega | (simp; omega))
              refine Hb.take (v := .bool false) 12 69 rfl ?_ (fun _ _ => rfl)
              refine Hb.done ?_

              have q1 := show wr.drew.cell? ⟨ga, 1, none⟩ = some (.int .i64 b) from q0
              have f1 := show wr.drew.frozen? ⟨ga, 1, none⟩ = false from f0
              have r1 := show wr.drew.cell? ⟨bt, ot + k * 8, none⟩ = some (.int .i64 y.1) from range_at HR.out
              have NX := Lib.hid (show LS3 w (wr.drew.setCell ⟨ga, 1, none⟩ (.int .i64 y.1)) T (k + 1) ga a y.1 c from
                ⟨by have := (show Blk wr.drew ga 48 _ from HST.out.blk).set 1 (.int .i64 y.1); simpa using this, HST.out.bel.drew.grown (grown_set _ _ _ _) HST.out.bel.drew.size (fun q hq => by cases hq; exact HGA.out), (by have := La.now HY.out; rw [HO.out] at this; exact this), HST.out.la2.stay⟩)
              have RN := Lib.hid (show Rd (wr.drew.setCell ⟨ga, 1, none⟩ (.int .i64 y.1)) _ (some ⟨bt, ot, none⟩) c6 8 m (tls T) from (HRT.out.drew).touch (Touch.of_grown (grown_set _ _ _ _)) (fun hz s hs => by rw [List.mem_singleton.1 hs]; exact HSEP.out))
              clear HST HR HBL
              go_wp2_with fail
              go_roundw
              case rel => exact ⟨k + 1, a, y.1, c, by go_num, by omega, NX, RN⟩
              case measure => simp [intOf]; omega
          · as_aux_lemma =>
              have HO := Lib.hid ho
              rw [ho] at r3
              clear ho
              have jlt : ¬ y.1 ≤ c := La.lt (by rw [HO.out]; exact HST.out.la2) HSRT.out HY.out (by rw [HO.out]; decide)
              have f0 := HST.out.blk.free 2
              have q0 := HST.out.blk.cell (i := 2) rfl
              go_wp2_with fail
              refine Hb.begin ?_
              refine Hb.take (v := .int .i64 2) 0 57 rfl ?_ (fun _ _ => rfl)
              refine Hb.take (v := .bool true) 1 58 rfl ?_ (fun w' hw' => by go_simp)
              refine Hb.take (v := .bool true) 2 59 rfl ?_ (fun _ _ => rfl)
              refine Hb.take (v := .slice (some ⟨bt, ot, none⟩) m c6) 3 60 rfl ?_ (fun _ _ => rfl)
              refine Hb.take (v := .int .i64 (k : Int)) 4 61 rfl ?_ (fun _ _ => rfl)
              refine Hb.take (v := .pointer (some ⟨bt, ot + k * 8, none⟩)) 5 62 rfl ?_ (fun w' hw' => by go_simp; first | done | rfl | omega | (simp; omega))
              refine Hb.take (v := .pointer (some ⟨bt, ot + k * 8, none⟩)) 6 63 rfl ?_ (fun w' hw' => by go_simp; first | done | rfl | omega)
              refine Hb.take (v := .int .i64 y.1) 7 64 rfl ?_ (fun w' hw' => run_loadInt (range_at (rangeAt_below HR.out hw' HBT.out)) rfl)
              refine Hb.take (v := .int .i64 2) 8 65 rfl ?_ (fun _ _ => rfl)
              refine Hb.take (v := .pointer (some ⟨ga, 2, none⟩)) 9 66 rfl ?_ (fun w' hw' => by go_simp; first | done | rfl | omega | (simp; omega))
              refine Hb.take (v := .int .i64 c) 10 67 rfl ?_ (fun w' hw' => run_loadInt ((HBL.out.below hw' HGL.out).cell (i := 2) rfl) rfl)
              refine Hb.take (v := .bool false) 11 68 rfl ?_ (fun w' hw' => by go_simp; first | done | rfl | omega | (simp; omega))
              refine Hb.take (v := .bool false) 12 69 rfl ?_ (fun _ _ => rfl)
              refine Hb.done ?_

              have q1 := show wr.drew.cell? ⟨ga, 2, none⟩ = some (.int .i64 c) from q0
              have f1 := show wr.drew.frozen? ⟨ga, 2, none⟩ = false from f0
              have r1 := show wr.drew.cell? ⟨bt, ot + k * 8, none⟩ = some (.int .i64 y.1) from range_at HR.out
              have NX := Lib.hid (show LS3 w (wr.drew.setCell ⟨ga, 2, none⟩ (.int .i64 y.1)) T (k + 1) ga a b y.1 from
                ⟨by have := (show Blk wr.drew ga 48 _ from HST.out.blk).set 2 (.int .i64 y.1); simpa using this, HST.out.bel.drew.grown (grown_set _ _ _ _) HST.out.bel.drew.size (fun q hq => by cases hq; exact HGA.out), HST.out.la1.stay, (by have := La.now HY.out; rw [HO.out] at this; exact this)⟩)
              have RN := Lib.hid (show Rd (wr.drew.setCell ⟨ga, 2, none⟩ (.int .i64 y.1)) _ (some ⟨bt, ot, none⟩) c6 8 m (tls T) from (HRT.out.drew).touch (Touch.of_grown (grown_set _ _ _ _)) (fun hz s hs => by rw [List.mem_singleton.1 hs]; exact HSEP.out))
              clear HST HR HBL
              go_wp2_with fail
              go_roundw
              case rel => exact ⟨k + 1, a, b, y.1, by go_num, by omega, NX, RN⟩
              case measure => simp [intOf]; omega
        · go_wp2_with fail
          go_ret
          exact ⟨rfl, HST.out.bel⟩
end Go.Proofs.Ythmcjehpmfebaaa
