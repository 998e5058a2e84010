/- The walk of ReadyTwo. -/
import Derived.Test.YthmcjehpmfebaaaReadyO
namespace Go.Proofs.Ythmcjehpmfebaaa
open Go.RowKit PReady

/-- No two that were told are Same. -/
def PA (T : List Tl) : Prop := T.Pairwise (fun a b => PEnt.same a.2 b.2 = false)
theorem pass_pa {commit now : Int} : ∀ {l : List Ent} {i : Nat} {u : Fl} {T : List Tl}, PA T → PA (T ++ pass commit now i u T l)
  | [], _, _, _, h => by simpa [pass] using h
  | e :: r, i, u, T, h => by
    simp only [pass]
    split
    · exact pass_pa h
    · next h1 =>
      split
      · have h5 : T ++ ((i : Int) + 1, e) :: pass commit now (i + 1) u (T ++ [((i : Int) + 1, e)]) r = (T ++ [((i : Int) + 1, e)]) ++ pass commit now (i + 1) u (T ++ [((i : Int) + 1, e)]) r := by simp
        rw [h5]
        refine pass_pa ?_
        unfold PA
        rw [List.pairwise_append]
        refine ⟨h, by simp, fun a ha b hb => ?_⟩
        rw [List.mem_singleton.1 hb]
        have h2 : has T e = false := by simpa using h1
        have := List.any_eq_false.1 h2 a ha
        simpa using this
      · exact pass_pa h
theorem go_pa {commit now : Int} {T : List Tl} {l : List Ent} (h : PA T) : PA (T ++ go commit now T l) := pass_pa h

set_option maxHeartbeats 16000000 in
set_option maxRecDepth 100000 in
theorem ReadyTwo_w (w : World) (A0 : Option Addr) (c0 n0 : Nat) (l0 : List Ent) (H00 : Rd w w.heap.size A0 c0 7 n0 (els l0)) (hok : ∀ e ∈ l0, EntOk e) (A1 : Option Addr) (c1 n1 : Nat) (l1 : List Ent) (H10 : Rd w w.heap.size A1 c1 7 n1 (els l1)) (hok1 : ∀ e ∈ l1, EntOk e) (mm nn now : Int) (hnow : -9223372036854775808 ≤ now ∧ now ≤ 9223372036854775807) :
    Calls Try.prog 4 #[.slice A0 n0 c0, .slice A1 n1 c1, .int .i64 mm, .int .i64 nn, .int .i64 now] w fun e w' => e = .returned (.bool true) ∧ Below w.heap.size w w' := by
  have H0 := Lib.hid H00
  have HOK := Lib.hid hok
  have H1 := Lib.hid H10
  have HOK1 := Lib.hid hok1
  clear H00 hok H10 hok1
  go_enter Try.func4, Try.ntmps4
  go_wp2_with fail
  refine (begun_c w).mono ?_
  rintro x w1 ⟨rfl, b1⟩
  have B1 := Lib.hid b1
  clear b1
  go_wp2_with fail
  refine (lEntries_c w1 A0 c0 n0 l0 12 (H0.out.past B1.out).tight HOK.out (by decide) (by decide)).mono ?_
  rintro x w2 ⟨A2, c2, es, rfl, hlen, ho2, hsm, b2⟩
  have HES := Lib.hid (show es.length ≤ 12 by have : ((12 : Int)).toNat = 12 := rfl; omega)
  have O2 := Lib.hid (Rd.of_own ho2)
  have B2 := Lib.hid (B1.out.trans (b2.mono B1.out.size))
  clear hlen ho2 hsm b2 B1
  go_wp2_with fail
  refine (rLog_c w2 _ A2 c2 es.length es O2.out).mono ?_
  rintro x wa ⟨A3, c3, rfl, hoa, ba⟩
  have LLH := Lib.hid (LL.log es HES.out)
  have Oa := Lib.hid (Rd.of_own hoa)
  have Ba := Lib.hid (B2.out.trans (ba.mono B2.out.size))
  clear hoa ba B2 O2 HES
  generalize PLog.log es = l at *
  go_wp2_with fail
  refine (lEntries_c wa A1 c1 n1 l1 12 (H1.out.past Ba.out).tight HOK1.out (by decide) (by decide)).mono ?_
  rintro x wb ⟨A4, c4, es2, rfl, hlen, hob, hsm, bb⟩
  have HES := Lib.hid (show es2.length ≤ 12 by have : ((12 : Int)).toNat = 12 := rfl; omega)
  have Ob := Lib.hid (Rd.of_own hob)
  have Oa2 := Lib.hid (Oa.out.past bb)
  have Bb := Lib.hid (Ba.out.trans (bb.mono Ba.out.size))
  clear hlen hob hsm bb Ba Oa
  go_wp2_with fail
  refine (rLog_c wb _ A4 c4 es2.length es2 Ob.out).mono ?_
  rintro x w3 ⟨A5, c5, rfl, hoc, bc⟩
  have LLM := Lib.hid (LL.log es2 HES.out)
  have OM := Lib.hid (Rd.of_own hoc)
  have OL := Lib.hid (Oa2.out.past bc)
  have B3 := Lib.hid (Bb.out.trans (bc.mono Bb.out.size))
  clear hoc bc Bb Ob Oa2 HES
  generalize PLog.log es2 = m at *
  go_wp2_with fail
  refine (New_c w3).mono ?_
  rintro x w4 ⟨rfl, q4, b4⟩
  have bq := b4.alloc b4.size (.cells #[.slice none 0 0] 32)
  have AZ := Lib.hid (Az.made B3.out q4 b4)
  have LI := Lib.hid (Li.made (g := w3.heap.size) (gr := w4.heap.size) OL.out bq (Nat.le_refl _) b4.size)
  have MI := Lib.hid (Li.made (g := w3.heap.size) (gr := w4.heap.size) OM.out bq (Nat.le_refl _) b4.size)
  clear q4 b4 bq
  obtain ⟨g, hg⟩ : ∃ g, w3.heap.size = g := ⟨_, rfl⟩
  rw [hg] at AZ LI MI ⊢
  clear hg OL OM B3
  have hll : (l.length : Int) ≤ 12 := by have := LLH.out.le; omega
  have hml : (m.length : Int) ≤ 12 := by have := LLM.out.le; omega
  go_wp2_with fail
  generalize (w4.alloc (.cells #[.slice none 0 0] 32)) = w5 at *
  generalize w4.heap.size = gr at *
  refine (AZ.out.go LI.out LLH.out (by decide) (Nat.le_refl _) (by simp) mm now).mono ?_
  obtain ⟨X, hX⟩ : ∃ X, PReady.go mm now [] (l.take l.length) = X := ⟨_, rfl⟩
  have hX2 : PReady.go mm now [] l = X := by rw [← hX, List.take_length]
  have hxl : X.length ≤ 12 := by rw [← hX2]; have := go_len mm now [] l; have := LLH.out.le; omega
  rw [hX]
  rintro x' w6 ⟨A6, c6, F6, rfl, o6, a6, t6, s6⟩
  have L6 := Lib.hid (LI.out.on t6 (fun k hk => .inl hk) s6 (fun k hk => .inl hk))
  have M6 := Lib.hid (MI.out.on t6 (fun k hk => .inl hk) s6 (fun k hk => .inl hk))
  have AZ6 := Lib.hid a6
  have O6 := Lib.hid o6
  have RQH := Lib.hid AZ.out.rq.hi
  clear o6 a6 t6 s6 LI MI AZ
  go_wp2_with fail
  refine (AZ6.out.rgo L6.out LLH.out (by decide) (Nat.le_refl _) (by simp) mm now hnow).mono ?_
  rw [hX]
  rintro x' w7 ⟨A7, c7, FR7, rfl, o7, a7, t7, s7⟩
  have LI := Lib.hid (L6.out.on t7 (fun k hk => .inr hk) (fun k hk => .inl hk) s7)
  have MI := Lib.hid (M6.out.on t7 (fun k hk => .inr hk) (fun k hk => .inl hk) s7)
  have AZ7 := Lib.hid a7
  have R7 := Lib.hid o7.rd
  have R6 := Lib.hid (O6.out.rd.touch t7 (fun hz k hk e => by
    have h1 := O6.out.low k e
    have h2 := RQH.out k hk
    omega))
  clear o7 a7 t7 s7 RQH O6 L6 M6 AZ6
  go_wp2_with fail
  refine (EqTold_c w7 _ _ A6 A7 c6 c7 X.length X R6.out R7.out).mono ?_
  rintro x' w8 ⟨rfl, b8⟩
  have AZ := Lib.hid (AZ7.out.past b8)
  have LI := Lib.hid (LI.out.past b8)
  have MI := Lib.hid (MI.out.past b8)
  clear b8 AZ7 R7 R6
  go_wp2_with fail
  have HXa := Lib.hid hxl
  have HPA := Lib.hid (show PA ([] ++ X) by rw [← hX2]; exact go_pa List.Pairwise.nil)
  clear hX hX2 hxl
  generalize X = X1 at *
  refine (AZ.out.go MI.out LLM.out (by decide) (Nat.le_refl _) (by have := HXa.out; simp only [List.length_append, List.length_nil]; omega) nn now).mono ?_
  obtain ⟨X, hX⟩ : ∃ X, PReady.go nn now ([] ++ X1) (m.take m.length) = X := ⟨_, rfl⟩
  have hX2 : PReady.go nn now ([] ++ X1) m = X := by rw [← hX, List.take_length]
  have hxl : X.length ≤ 12 := by rw [← hX2]; have := go_len nn now ([] ++ X1) m; have := LLM.out.le; omega
  rw [hX]
  rintro x' w6 ⟨A6, c6, F6, rfl, o6, a6, t6, s6⟩
  have L6 := Lib.hid (LI.out.on t6 (fun k hk => .inl hk) s6 (fun k hk => .inl hk))
  have M6 := Lib.hid (MI.out.on t6 (fun k hk => .inl hk) s6 (fun k hk => .inl hk))
  have AZ6 := Lib.hid a6
  have O6 := Lib.hid o6
  have RQH := Lib.hid AZ.out.rq.hi
  clear o6 a6 t6 s6 LI MI AZ
  go_wp2_with fail
  refine (AZ6.out.rgo M6.out LLM.out (by decide) (Nat.le_refl _) (by have := HXa.out; simp only [List.length_append, List.length_nil]; omega) nn now hnow).mono ?_
  rw [hX]
  rintro x' w7 ⟨A7, c7, FR7, rfl, o7, a7, t7, s7⟩
  have LI := Lib.hid (L6.out.on t7 (fun k hk => .inr hk) (fun k hk => .inl hk) s7)
  have MI := Lib.hid (M6.out.on t7 (fun k hk => .inr hk) (fun k hk => .inl hk) s7)
  have AZ7 := Lib.hid a7
  have R7 := Lib.hid o7.rd
  have R6 := Lib.hid (O6.out.rd.touch t7 (fun hz k hk e => by
    have h1 := O6.out.low k e
    have h2 := RQH.out k hk
    omega))
  clear o7 a7 t7 s7 RQH O6 L6 M6 AZ6
  go_wp2_with fail
  refine (EqTold_c w7 _ _ A6 A7 c6 c7 X.length X R6.out R7.out).mono ?_
  rintro x' w8 ⟨rfl, b8⟩
  have AZ := Lib.hid (AZ7.out.past b8)
  have LI := Lib.hid (LI.out.past b8)
  have MI := Lib.hid (MI.out.past b8)
  clear b8 AZ7 R7 R6
  go_wp2_with fail
  have HXb := Lib.hid hxl
  have HPB := Lib.hid (show PA (([] ++ X1) ++ X) by rw [← hX2]; exact go_pa HPA.out)
  clear hX hX2 hxl HPA
  have hlT : (([] ++ X1) ++ X).length ≤ 24 := by have := HXa.out; have := HXb.out; simp only [List.length_append, List.length_nil]; omega
  generalize ([] ++ X1) ++ X = T at *
  clear HXa HXb LI MI
  refine (Told_c w8 g _ T AZ.out.qu).mono ?_
  obtain ⟨tl, htl⟩ : ∃ tl, T.length = tl := ⟨_, rfl⟩
  rw [htl] at hlT ⊢
  rintro x' w9 ⟨A9, c9, rfl, o9, b9⟩
  have AZ9 := Lib.hid (AZ.out.past b9)
  have O9 := Lib.hid (show Rd w9 w9.heap.size A9 c9 8 tl (tls T) from Rd.of_own o9)
  clear o9 b9 AZ
  go_wp2_with fail
  go_loopw [17] (fun s17 wr => ∃ i : Nat, s17 = .int .i64 i ∧ i ≤ tl ∧ Hid (Below w9.heap.size w9 wr)) (fun s17 _ => tl - (intOf s17).toNat)
  case atStart => exact ⟨0, rfl, by omega, Lib.hid (Below.refl _ _)⟩
  case round =>
    obtain ⟨i, rfl, hi, BI⟩ := hrel
    by_cases h1 : i < tl
    · go_wp2_with fail
      go_loopw [18] (fun s18 wr => ∃ k : Nat, s18 = .int .i64 k ∧ k ≤ i ∧ Hid (Below w9.heap.size w9 wr)) (fun s18 _ => i - (intOf s18).toNat)
      case atStart => exact ⟨0, rfl, by omega, BI⟩
      case round =>
        clear BI
        obtain ⟨k, rfl, hk, BI⟩ := hrel
        by_cases h2 : k < i
        · obtain ⟨b, o, y, rfl, hb, hy, -, hr⟩ := (O9.out.below BI.out).told h1
          obtain ⟨b', o', z, hA, hb', hz, -, hr'⟩ := (O9.out.below BI.out).told (show k < tl by omega)
          cases hA
          have HR := Lib.hid (show wr.drew.rangeAt b (o + i * 8) (tcs y) from hr)
          have HRZ := Lib.hid (show wr.drew.rangeAt b (o + k * 8) (tcs z) from hr')
          have HB := Lib.hid (show b < wr.heap.size from Nat.lt_of_lt_of_le hb BI.out.size)
          have HSM := Lib.hid (show PEnt.same y.2 z.2 = false by
            obtain ⟨hi', hye⟩ := List.getElem?_eq_some_iff.1 hy
            obtain ⟨hk', hze⟩ := List.getElem?_eq_some_iff.1 hz
            have := (List.pairwise_iff_getElem.1 HPB.out) k i hk' hi' h2
            rw [hye, hze] at this
            rw [same_comm]; exact this)
          clear hb hy hr hb' hz hr'
          go_wp2_with fail
          refine Hb.begin ?_
          refine Hb.take (v := .slice (some ⟨b, o, none⟩) tl c9) 0 70 rfl ?_ (fun _ _ => rfl)
          refine Hb.take (v := .int .i64 (i : Int)) 1 71 rfl ?_ (fun _ _ => rfl)
          refine Hb.take (v := .pointer (some ⟨b, o + i * 8, none⟩)) 2 72 rfl ?_ (fun w' hw' => by go_simp; first | done | rfl | omega | (simp; omega))
          refine Hb.take (v := .pointer (some ⟨b, o + i * 8 + 1, none⟩)) 3 73 rfl ?_ (fun w' hw' => by go_simp; first | done | rfl | omega)
          refine Hb.take (v := ev y.2) 4 74 rfl ?_ (fun w' hw' => run_loadE (range_ent (rangeAt_below HR.out hw' HB.out)) rfl)
          refine Hb.take (v := .slice (some ⟨b, o, none⟩) tl c9) 5 75 rfl ?_ (fun _ _ => rfl)
          refine Hb.take (v := .int .i64 (k : Int)) 6 76 rfl ?_ (fun _ _ => rfl)
          refine Hb.take (v := .pointer (some ⟨b, o + k * 8, none⟩)) 7 77 rfl ?_ (fun w' hw' => by go_simp; first | done | rfl | omega | (simp; omega))
          refine Hb.take (v := .pointer (some ⟨b, o + k * 8 + 1, none⟩)) 8 78 rfl ?_ (fun w' hw' => by go_simp; first | done | rfl | omega)
          refine Hb.take (v := ev z.2) 9 79 rfl ?_ (fun w' hw' => run_loadE (range_ent (rangeAt_below HRZ.out hw' HB.out)) rfl)
          refine Hb.call (f := 22) (args := #[ev y.2, ev z.2]) 10 80 rfl ?_ (run_callf Try.func22 (by kernel_rfl) (by kernel_rfl) (by simp only [List.map_toArray, List.map_cons, List.map_nil]; rfl))
          refine (rSame_c wr.drew y.2 z.2).mono ?_
          rw [HSM.out]
          rintro x' wd ⟨rfl, bd⟩
          refine Hb.back (B' := wr.heap.size) bd (Nat.le_refl _) ?_
          refine Hb.done ?_
          have BN := Lib.hid (BI.out.trans ((show Below wr.heap.size wr wd from (Below.refl _ _).drew.trans bd).mono BI.out.size))
          clear bd BI
          go_wp2_with fail
          go_roundw
          case rel => exact ⟨k + 1, by go_num, by omega, BN⟩
          case measure => simp [intOf]; omega
        · go_wp2_with fail
          go_roundw
          case rel => exact ⟨i + 1, by go_num, by omega, BI⟩
          case measure => simp [intOf]; omega
    · have AZr := Lib.hid (AZ9.out.past BI.out)
      obtain ⟨Aq, cq, hBq, hRq, -⟩ := AZr.out.rq.open
      have q0 := hBq.cell (i := 0) rfl
      have HRq := Lib.hid hRq
      rw [htl] at HRq q0
      have O9r := Lib.hid (O9.out.below BI.out)
      clear hBq hRq
      go_wp2_with fail
      clear q0
      refine (EqTold_c wr _ _ A9 Aq c9 cq tl T O9r.out HRq.out).mono ?_
      rintro x' wz ⟨rfl, bz⟩
      go_wp2_with fail
      go_ret
      exact ⟨rfl, AZr.out.bel.trans (bz.mono AZr.out.bel.size)⟩
end Go.Proofs.Ythmcjehpmfebaaa
