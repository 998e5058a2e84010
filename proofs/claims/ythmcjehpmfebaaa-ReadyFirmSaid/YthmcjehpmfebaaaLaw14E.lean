/- The walk of ReadyFirm. -/
import Derived.Test.YthmcjehpmfebaaaReadyM
namespace Go.Proofs.Ythmcjehpmfebaaa
open Go.RowKit PReady

/-- Sy.go, with what it may have turned. -/
theorem Sy.go2 {w0 w : World} {g : Nat} {F : List Nat} {T : List Tl} {A : Option Addr} {c m : Nat} {l : List Ent} (h : Sy w0 w g F T A c l) (hl : LL l m) (hm : m ≤ 60) (commit now : Int) :
    Calls Try.prog 17 #[.pointer (some ⟨g, 0, none⟩), .slice A l.length c, .int .i64 commit, .int .i64 now] w fun x w' => ∃ A' c' F', x = .returned (.slice A' (PReady.go commit now T l).length c') ∧
      w'.ownsRow w.heap.size 44 8 (.slice A' (PReady.go commit now T l).length c') (PReady.go commit now T l).length (tls (PReady.go commit now T l)) ∧ Sy w0 w' g F' (T ++ PReady.go commit now T l) A c l ∧ Touch F w w' := by
  have hle := hl.le
  have hc := h.cnt
  refine (h.sx.go hl.fit hl.ap (by omega) (by omega) commit now).mono ?_
  rintro x w' ⟨A', c', F', rfl, ho, hs, -, ht⟩
  exact ⟨A', c', F', rfl, ho, ⟨hs, go_count hl.ap hc⟩, ht⟩
set_option maxHeartbeats 16000000 in
set_option maxRecDepth 100000 in
theorem ReadyFirm_w (w : World) (A0 : Option Addr) (c0 n0 : Nat) (l0 : List Ent) (H00 : Rd w w.heap.size A0 c0 7 n0 (els l0)) (hok : ∀ e ∈ l0, EntOk e) (AO : Option Addr) (cO nO : Nat) (zO : List Value) (HO0 : Rd w w.heap.size AO cO 3 nO zO) (yO : AllI zO) :
    Calls Try.prog 5 #[.slice A0 n0 c0, .slice AO nO cO] w fun e w' => e = .returned (.bool true) ∧ Below w.heap.size w w' := by
  have H0 := Lib.hid H00
  have HOK := Lib.hid hok
  have HO := Lib.hid HO0
  have YO := Lib.hid yO
  have hnO : nO ≤ 9223372036854775807 := by have := HO0.le; have := HO0.cap; unfold maxLen at this; omega
  clear H00 hok HO0 yO
  go_enter Try.func5, Try.ntmps5
  go_wp2_with fail
  refine (begun_c w).mono ?_
  rintro x w1 ⟨rfl, b1⟩
  have B1 := Lib.hid b1
  clear b1
  go_wp2_with fail
  refine (lEntries_c w1 A0 c0 n0 l0 30 (H0.out.past B1.out).tight HOK.out (by decide) (by decide)).mono ?_
  rintro x w2 ⟨A2, c2, es, rfl, hlen, ho2, hsm, b2⟩
  have HES := Lib.hid (show es.length ≤ 30 by have : ((30 : Int)).toNat = 30 := rfl; omega)
  have O2 := Lib.hid (Rd.of_own ho2)
  have B2 := Lib.hid (B1.out.trans (b2.mono B1.out.size))
  clear hlen ho2 hsm b2 B1
  go_wp2_with fail
  refine (rLog_c w2 _ A2 c2 es.length es O2.out).mono ?_
  rintro x w3 ⟨A3, c3, rfl, ho3, b3⟩
  have LLH := Lib.hid (LL.log es HES.out)
  have O3 := Lib.hid (Rd.of_own ho3)
  have B3 := Lib.hid (B2.out.trans (b3.mono B2.out.size))
  clear ho3 b3 B2 O2 HES
  generalize PLog.log es = l at *
  go_wp2_with fail
  refine (New_c w3).mono ?_
  rintro x w4 ⟨rfl, q4, b4⟩
  have S4 := Lib.hid (show Sy w w4 w3.heap.size [w3.heap.size] [] A3 c3 l from ⟨Sx.made O3.out B3.out q4 b4, by rw [unt_nil]; simp⟩)
  clear q4 b4
  obtain ⟨g, hg⟩ : ∃ g, w3.heap.size = g := ⟨_, rfl⟩
  rw [hg] at S4 ⊢
  clear hg O3 B3
  go_wp2_with fail
  have hll : (l.length : Int) ≤ 30 := by have := LLH.out.le; omega
  go_loopw [8] (fun s8 wr => ∃ (i : Nat) (F : List Nat) (T : List Tl), s8 = .int .i64 i ∧ i ≤ nO ∧ i ≤ 20 ∧ Hid (Sy w wr g F T A3 c3 l)) (fun s8 _ => nO - (intOf s8).toNat)
  case atStart => exact ⟨0, [g], [], rfl, by omega, by omega, S4⟩
  case round =>
    obtain ⟨i, F, T, rfl, hi, hi2, HS⟩ := hrel
    clear S4
    by_cases h1 : i < nO
    · by_cases h2 : i < 20
      · have j2 : (i : Int) < 20 := by omega
        obtain ⟨b, o, x, y, t, rfl, hb, k0, k1, k2, -, -, -⟩ := (HO.out.below HS.out.sx.bel).op YO.out h1
        have S5 := Lib.hid (HS.out.past ((Below.refl wr.heap.size wr).alloc (Nat.le_refl _) (.cells #[.int .i64 x, .int .i64 y, .int .i64 t] 34)))
        have KO5 := Lib.hid (Blk.new wr #[.int .i64 x, .int .i64 y, .int .i64 t] 34)
        have HNF := (show wr.heap.size ∉ F from fun hm => Nat.lt_irrefl _ (HS.out.sx.qu.hi _ hm))
        clear hb HS
        go_wp2_with fail
        clear k0 k1 k2
        generalize hko : wr.heap.size = ko at *
        generalize (wr.alloc (.cells #[.int .i64 x, .int .i64 y, .int .i64 t] 34)) = w5 at *
        have q1 := KO5.out.cell (i := 1) rfl
        have q2 := KO5.out.cell (i := 2) rfl
        go_wp2_with fail
        clear q1 q2
        have hnF : ko ∉ F := HNF
        refine (Sy.go2 S5.out LLH.out (by decide) y t).mono ?_
        obtain ⟨X, hX⟩ : ∃ X, PReady.go y t T l = X := ⟨_, rfl⟩
        obtain ⟨m, hm⟩ : ∃ m, X.length = m := ⟨_, rfl⟩
        rw [hX, hm]
        rintro x' w6 ⟨A5, c5, F5, rfl, o6, s6, t6⟩
        obtain ⟨T5, hT5⟩ : ∃ T5, T ++ X = T5 := ⟨_, rfl⟩
        rw [hT5] at s6
        have HX := Lib.hid hX
        have HT5 := Lib.hid (show T ++ PReady.go y t T l = T5 by rw [hX, hT5])
        have O6 := Lib.hid (show Rd w6 w6.heap.size A5 c5 8 m (tls X) from Rd.of_own o6)
        have S6 := Lib.hid s6
        have KO6 := Lib.hid (KO5.out.touch t6 hnF)
        have LO6 := Lib.hid KO6.out.lt
        have hmb : m ≤ 9223372036854775807 := by have := go_len y t T l; rw [hX, hm] at this; have := LLH.out.le; omega
        clear o6 s6 t6 S5 KO5 hnF hX hm hT5 hko
        go_wp2_with fail
        go_loopw [11] (fun s11 wr => ∃ k : Nat, s11 = .int .i64 k ∧ k ≤ m ∧ Hid (Below w6.heap.size w6 wr)) (fun s11 _ => m - (intOf s11).toNat)
        case atStart => exact ⟨0, rfl, by omega, Lib.hid (Below.refl _ _)⟩
        case round =>
          obtain ⟨k, rfl, hk, BK⟩ := hrel
          by_cases h3 : k < m
          · obtain ⟨bt, ot, tt, rfl, hbt, hty, htm, hr⟩ := (O6.out.below BK.out).told h3
            obtain ⟨tp, e⟩ := tt
            obtain ⟨p, hp, hp2⟩ := go_at (HX.out ▸ htm)
            have hp3 : tp = (p : Int) + 1 := hp2
            subst hp3
            have hpl : p < l.length := (List.getElem?_eq_some_iff.1 hp).1
            have HFI := Lib.hid (HT5.out ▸ go_firm (HX.out ▸ htm) : (e.lev ≠ 0 → (p : Int) + 1 ≤ y) ∧ ∀ (j : Nat) (x : Ent), (j : Int) < ((p : Int) + 1) - 1 → l[j]? = some x → asks e x → has T5 x = true)
            have HRX := Lib.hid (range_ent hr)
            have HR0 := Lib.hid hr
            have hbt' : bt < wr.heap.size := Nat.lt_of_lt_of_le hbt BK.out.size
            have KE0 := Lib.hid (Blk.newEnt wr 39 e)
            have BA := Lib.hid ((Below.refl wr.heap.size wr).alloc (Nat.le_refl _) (.cells #[.int .i64 e.fr, .int .i64 e.boot, .int .i64 e.seq, .int .i64 e.ord, .int .i64 e.lev, .int .i64 e.stamp, .string e.data] 39))
            have KO0 := Lib.hid ((KO6.out.below BK.out LO6.out).past BA.out)
            have S70 := Lib.hid ((S6.out.past BK.out).past BA.out)
            have HR1 := Lib.hid (rangeAt_below hr BA.out hbt')
            have BK70 := Lib.hid (BK.out.trans (BA.out.mono BK.out.size))
            have hbt2 : bt < (wr.alloc (.cells #[.int .i64 e.fr, .int .i64 e.boot, .int .i64 e.seq, .int .i64 e.ord, .int .i64 e.lev, .int .i64 e.stamp, .string e.data] 39)).heap.size := Nat.lt_of_lt_of_le hbt' BA.out.size
            clear hr hty htm hp hp2 BK hbt'
            go_wp2_with ((with_reducible show wpList _ _ _ ((⟨some 52, _, _, _, _, _⟩ : Oper) :: _) _ _); refine wpList_runTo' rfl (.agg #[.int .i64 e.fr, .int .i64 e.boot, .int .i64 e.seq, .int .i64 e.ord, .int .i64 e.lev, .int .i64 e.stamp, .string e.data]) _ (run_loadE HRX.out rfl) ?_)
            generalize hke : wr.heap.size = ke at *
            generalize (wr.alloc (.cells #[.int .i64 e.fr, .int .i64 e.boot, .int .i64 e.seq, .int .i64 e.ord, .int .i64 e.lev, .int .i64 e.stamp, .string e.data] 39)) = w7a at *
            clear HRX HR0 BA hke hbt
            have KE := Lib.hid (show Blk w7a.drew ke 39 (ecs e) from KE0.out)
            have LE := Lib.hid KE.out.lt
            have KO := Lib.hid (show Blk w7a.drew ko 34 _ from KO0.out)
            have LO := Lib.hid KO.out.lt
            have HR := Lib.hid (show w7a.drew.rangeAt bt (ot + k * 8) (tcs ((p : Int) + 1, e)) from HR1.out)
            have HBT := Lib.hid (show bt < w7a.drew.heap.size from hbt2)
            have S7 := Lib.hid S70.out.drew
            have BK7 := Lib.hid BK70.out.drew
            clear KE0 KO0 S70 HR1 BK70 hbt2
            by_cases hw0 : e.lev = 0
            · have jw : (e.lev != 0) = false := by simp [hw0]
              refine Hb.begin ?_
              refine Hb.take (v := .pointer (some ⟨ke, 4, none⟩)) 0 53 rfl ?_ (fun w' hw' => by go_simp)
              refine Hb.take (v := .int .i64 e.lev) 1 54 rfl ?_ (fun w' hw' => run_loadInt ((KE.out.below hw' LE.out).cell (i := 4) rfl) rfl)
              refine Hb.take (v := .bool false) 2 55 rfl ?_ (fun w' hw' => by go_simp)
              refine Hb.take (v := .bool false) 3 56 rfl ?_ (fun _ _ => rfl)
              refine Hb.pass 4 57 rfl ?_
              refine Hb.pass 5 58 rfl ?_
              refine Hb.pass 6 59 rfl ?_
              refine Hb.pass 7 60 rfl ?_
              refine Hb.pass 8 61 rfl ?_
              refine Hb.pass 9 62 rfl ?_
              refine Hb.pass 10 63 rfl ?_
              refine Hb.pass 11 64 rfl ?_
              refine Hb.take (v := .bool false) 12 65 rfl ?_ (fun _ _ => rfl)
              refine Hb.done ?_
              clear jw hw0
              generalize w7a.drew = w7 at *
              go_wp2_with fail
              go_loopw [13] (fun s13 wr => ∃ j : Nat, s13 = .int .i64 j ∧ j ≤ p ∧ Hid (Below w7.heap.size w7 wr)) (fun s13 _ => p - (intOf s13).toNat)
              case atStart => exact ⟨0, rfl, by omega, Lib.hid (Below.refl _ _)⟩
              case round =>
                obtain ⟨j, rfl, hj, BJ⟩ := hrel
                have SJ := Lib.hid (S7.out.past BJ.out)
                have rt := range_at (rangeAt_below HR.out BJ.out HBT.out)
                have jpp : (p : Int) + 1 - 1 = (p : Int) := by omega
                by_cases h4 : j < p
                · have h5 : j < l.length := by omega
                  obtain ⟨bx, ox, x, rfl, -, hx, hxm, x0, x1, x2, x3, x4, x5, x6⟩ := SJ.out.sx.rd.ent h5
                  have HXM := Lib.hid hxm
                  have HASK := Lib.hid (show asks e x → has T5 x = true from HFI.out.2 j x (by show (j : Int) < (p : Int) + 1 - 1; omega) hx)
                  have q3 := (KE.out.below BJ.out LE.out).cell (i := 3) rfl
                  have q4 := (KE.out.below BJ.out LE.out).cell (i := 4) rfl
                  clear hx hxm
                  obtain ⟨fx, bx2, sx, ox2, lx, tx, dx⟩ := x
                  dsimp only at x0 x1 x2 x3 x4 x5 x6
                  obtain ⟨lv, hlv⟩ : ∃ v, e.lev = v := ⟨_, rfl⟩
                  obtain ⟨od, hod⟩ : ∃ v, e.ord = v := ⟨_, rfl⟩
                  rw [hlv] at q4
                  rw [hod] at q3
                  have HLV := Lib.hid hlv
                  have HOD := Lib.hid hod
                  clear hlv hod
                  by_cases g2 : lv = 2
                  · have HAS := Lib.hid (HASK.out (.inl (HLV.out.trans g2)))
                    subst g2
                    as_aux_lemma =>
                      go_wp2_with fail
                      clear x0 x1 x2 x3 x4 x5 x6 q3 q4
                      refine (show Calls Try.prog _ #[_, .agg #[.int .i64 fx, .int .i64 bx2, .int .i64 sx, .int .i64 ox2, .int .i64 lx, .int .i64 tx, .string dx]] wr _ from Has_c wr g F5 T5 SJ.out.sx.qu ⟨fx, bx2, sx, ox2, lx, tx, dx⟩ (LLH.out.fit _ HXM.out)).mono ?_
                      rw [HAS.out]
                      rintro z w8 ⟨rfl, b8⟩
                      have BN := Lib.hid (BJ.out.trans (b8.mono BJ.out.size))
                      clear b8 SJ BJ
                      go_wp2_with fail
                      go_roundw
                      case rel => exact ⟨j + 1, by go_num, by omega, BN⟩
                      case measure => simp [intOf]; omega
                  · have e2 : (lv == 2) = false := by simpa using g2
                    by_cases o1 : od = 1
                    · by_cases x1' : ox2 = 1
                      · have HAS := Lib.hid (HASK.out (.inr (.inl ⟨HOD.out.trans o1, x1'⟩)))
                        subst o1
                        subst x1'
                        as_aux_lemma =>
                          go_wp2_with fail
                          clear x0 x1 x2 x3 x4 x5 x6 q3 q4
                          refine (show Calls Try.prog _ #[_, .agg #[.int .i64 fx, .int .i64 bx2, .int .i64 sx, .int .i64 1, .int .i64 lx, .int .i64 tx, .string dx]] wr _ from Has_c wr g F5 T5 SJ.out.sx.qu ⟨fx, bx2, sx, 1, lx, tx, dx⟩ (LLH.out.fit _ HXM.out)).mono ?_
                          rw [HAS.out]
                          rintro z w8 ⟨rfl, b8⟩
                          have BN := Lib.hid (BJ.out.trans (b8.mono BJ.out.size))
                          clear b8 SJ BJ
                          go_wp2_with fail
                          go_roundw
                          case rel => exact ⟨j + 1, by go_num, by omega, BN⟩
                          case measure => simp [intOf]; omega
                      · have e4 : (ox2 == 1) = false := by simpa using x1'
                        subst o1
                        as_aux_lemma =>
                          go_wp2_with fail
                          clear x0 x1 x2 x3 x4 x5 x6 q3 q4
                          go_roundw
                          case rel => exact ⟨j + 1, by go_num, by omega, BJ⟩
                          case measure => simp [intOf]; omega
                    · have e3 : (od == 1) = false := by simpa using o1
                      by_cases o2 : od = 2
                      · by_cases x2' : ox2 = 2
                        · have HAS := Lib.hid (HASK.out (.inr (.inr ⟨HOD.out.trans o2, x2'⟩)))
                          subst o2
                          subst x2'
                          clear o1 e3
                          as_aux_lemma =>
                            go_wp2_with fail
                            clear x0 x1 x2 x3 x4 x5 x6 q3 q4
                            refine (show Calls Try.prog _ #[_, .agg #[.int .i64 fx, .int .i64 bx2, .int .i64 sx, .int .i64 2, .int .i64 lx, .int .i64 tx, .string dx]] wr _ from Has_c wr g F5 T5 SJ.out.sx.qu ⟨fx, bx2, sx, 2, lx, tx, dx⟩ (LLH.out.fit _ HXM.out)).mono ?_
                            rw [HAS.out]
                            rintro z w8 ⟨rfl, b8⟩
                            have BN := Lib.hid (BJ.out.trans (b8.mono BJ.out.size))
                            clear b8 SJ BJ
                            go_wp2_with fail
                            go_roundw
                            case rel => exact ⟨j + 1, by go_num, by omega, BN⟩
                            case measure => simp [intOf]; omega
                        · have e6 : (ox2 == 2) = false := by simpa using x2'
                          subst o2
                          clear o1 e3
                          as_aux_lemma =>
                            go_wp2_with fail
                            clear x0 x1 x2 x3 x4 x5 x6 q3 q4
                            go_roundw
                            case rel => exact ⟨j + 1, by go_num, by omega, BJ⟩
                            case measure => simp [intOf]; omega
                      · have e5 : (od == 2) = false := by simpa using o2
                        as_aux_lemma =>
                          go_wp2_with fail
                          clear x0 x1 x2 x3 x4 x5 x6 q3 q4
                          go_roundw
                          case rel => exact ⟨j + 1, by go_num, by omega, BJ⟩
                          case measure => simp [intOf]; omega
                · obtain rfl : j = p := by omega
                  have BN := Lib.hid (BK7.out.trans (BJ.out.mono BK7.out.size))
                  clear SJ
                  go_wp2_with fail
                  go_roundw
                  case rel => exact ⟨k + 1, by go_num, by omega, BN⟩
                  case measure => simp [intOf]; omega
            · have jw : (e.lev != 0) = true := by simp [hw0]
              have jc : ¬ (y < (p : Int) + 1) := by have := HFI.out.1 hw0; omega
              refine Hb.begin ?_
              refine Hb.take (v := .pointer (some ⟨ke, 4, none⟩)) 0 53 rfl ?_ (fun w' hw' => by go_simp)
              refine Hb.take (v := .int .i64 e.lev) 1 54 rfl ?_ (fun w' hw' => run_loadInt ((KE.out.below hw' LE.out).cell (i := 4) rfl) rfl)
              refine Hb.take (v := .bool true) 2 55 rfl ?_ (fun w' hw' => by go_simp)
              refine Hb.take (v := .bool true) 3 56 rfl ?_ (fun _ _ => rfl)
              refine Hb.take (v := .slice (some ⟨bt, ot, none⟩) m c5) 4 57 rfl ?_ (fun _ _ => rfl)
              refine Hb.take (v := .int .i64 (k : Int)) 5 58 rfl ?_ (fun _ _ => rfl)
              refine Hb.take (v := .pointer (some ⟨bt, ot + k * 8, none⟩)) 6 59 rfl ?_ (fun w' hw' => by go_simp; first | done | rfl | omega | (simp; omega))
              refine Hb.take (v := .pointer (some ⟨bt, ot + k * 8, none⟩)) 7 60 rfl ?_ (fun w' hw' => by go_simp; first | done | rfl | omega)
              refine Hb.take (v := .int .i64 ((p : Int) + 1)) 8 61 rfl ?_ (fun w' hw' => run_loadInt (range_at (rangeAt_below HR.out hw' HBT.out)) rfl)
              refine Hb.take (v := .pointer (some ⟨ko, 1, none⟩)) 9 62 rfl ?_ (fun w' hw' => by go_simp)
              refine Hb.take (v := .int .i64 y) 10 63 rfl ?_ (fun w' hw' => run_loadInt ((KO.out.below hw' LO.out).cell (i := 1) rfl) rfl)
              refine Hb.take (v := .bool false) 11 64 rfl ?_ (fun w' hw' => by go_simp; first | done | rfl | omega | (simp; omega))
              refine Hb.take (v := .bool false) 12 65 rfl ?_ (fun _ _ => rfl)
              refine Hb.done ?_
              clear jw jc hw0
              generalize w7a.drew = w7 at *
              go_wp2_with fail
              go_loopw [13] (fun s13 wr => ∃ j : Nat, s13 = .int .i64 j ∧ j ≤ p ∧ Hid (Below w7.heap.size w7 wr)) (fun s13 _ => p - (intOf s13).toNat)
              case atStart => exact ⟨0, rfl, by omega, Lib.hid (Below.refl _ _)⟩
              case round =>
                obtain ⟨j, rfl, hj, BJ⟩ := hrel
                have SJ := Lib.hid (S7.out.past BJ.out)
                have rt := range_at (rangeAt_below HR.out BJ.out HBT.out)
                have jpp : (p : Int) + 1 - 1 = (p : Int) := by omega
                by_cases h4 : j < p
                · have h5 : j < l.length := by omega
                  obtain ⟨bx, ox, x, rfl, -, hx, hxm, x0, x1, x2, x3, x4, x5, x6⟩ := SJ.out.sx.rd.ent h5
                  have HXM := Lib.hid hxm
                  have HASK := Lib.hid (show asks e x → has T5 x = true from HFI.out.2 j x (by show (j : Int) < (p : Int) + 1 - 1; omega) hx)
                  have q3 := (KE.out.below BJ.out LE.out).cell (i := 3) rfl
                  have q4 := (KE.out.below BJ.out LE.out).cell (i := 4) rfl
                  clear hx hxm
                  obtain ⟨fx, bx2, sx, ox2, lx, tx, dx⟩ := x
                  dsimp only at x0 x1 x2 x3 x4 x5 x6
                  obtain ⟨lv, hlv⟩ : ∃ v, e.lev = v := ⟨_, rfl⟩
                  obtain ⟨od, hod⟩ : ∃ v, e.ord = v := ⟨_, rfl⟩
                  rw [hlv] at q4
                  rw [hod] at q3
                  have HLV := Lib.hid hlv
                  have HOD := Lib.hid hod
                  clear hlv hod
                  by_cases g2 : lv = 2
                  · have HAS := Lib.hid (HASK.out (.inl (HLV.out.trans g2)))
                    subst g2
                    as_aux_lemma =>
                      go_wp2_with fail
                      clear x0 x1 x2 x3 x4 x5 x6 q3 q4
                      refine (show Calls Try.prog _ #[_, .agg #[.int .i64 fx, .int .i64 bx2, .int .i64 sx, .int .i64 ox2, .int .i64 lx, .int .i64 tx, .string dx]] wr _ from Has_c wr g F5 T5 SJ.out.sx.qu ⟨fx, bx2, sx, ox2, lx, tx, dx⟩ (LLH.out.fit _ HXM.out)).mono ?_
                      rw [HAS.out]
                      rintro z w8 ⟨rfl, b8⟩
                      have BN := Lib.hid (BJ.out.trans (b8.mono BJ.out.size))
                      clear b8 SJ BJ
                      go_wp2_with fail
                      go_roundw
                      case rel => exact ⟨j + 1, by go_num, by omega, BN⟩
                      case measure => simp [intOf]; omega
                  · have e2 : (lv == 2) = false := by simpa using g2
                    by_cases o1 : od = 1
                    · by_cases x1' : ox2 = 1
                      · have HAS := Lib.hid (HASK.out (.inr (.inl ⟨HOD.out.trans o1, x1'⟩)))
                        subst o1
                        subst x1'
                        as_aux_lemma =>
                          go_wp2_with fail
                          clear x0 x1 x2 x3 x4 x5 x6 q3 q4
                          refine (show Calls Try.prog _ #[_, .agg #[.int .i64 fx, .int .i64 bx2, .int .i64 sx, .int .i64 1, .int .i64 lx, .int .i64 tx, .string dx]] wr _ from Has_c wr g F5 T5 SJ.out.sx.qu ⟨fx, bx2, sx, 1, lx, tx, dx⟩ (LLH.out.fit _ HXM.out)).mono ?_
                          rw [HAS.out]
                          rintro z w8 ⟨rfl, b8⟩
                          have BN := Lib.hid (BJ.out.trans (b8.mono BJ.out.size))
                          clear b8 SJ BJ
                          go_wp2_with fail
                          go_roundw
                          case rel => exact ⟨j + 1, by go_num, by omega, BN⟩
                          case measure => simp [intOf]; omega
                      · have e4 : (ox2 == 1) = false := by simpa using x1'
                        subst o1
                        as_aux_lemma =>
                          go_wp2_with fail
                          clear x0 x1 x2 x3 x4 x5 x6 q3 q4
                          go_roundw
                          case rel => exact ⟨j + 1, by go_num, by omega, BJ⟩
                          case measure => simp [intOf]; omega
                    · have e3 : (od == 1) = false := by simpa using o1
                      by_cases o2 : od = 2
                      · by_cases x2' : ox2 = 2
                        · have HAS := Lib.hid (HASK.out (.inr (.inr ⟨HOD.out.trans o2, x2'⟩)))
                          subst o2
                          subst x2'
                          clear o1 e3
                          as_aux_lemma =>
                            go_wp2_with fail
                            clear x0 x1 x2 x3 x4 x5 x6 q3 q4
                            refine (show Calls Try.prog _ #[_, .agg #[.int .i64 fx, .int .i64 bx2, .int .i64 sx, .int .i64 2, .int .i64 lx, .int .i64 tx, .string dx]] wr _ from Has_c wr g F5 T5 SJ.out.sx.qu ⟨fx, bx2, sx, 2, lx, tx, dx⟩ (LLH.out.fit _ HXM.out)).mono ?_
                            rw [HAS.out]
                            rintro z w8 ⟨rfl, b8⟩
                            have BN := Lib.hid (BJ.out.trans (b8.mono BJ.out.size))
                            clear b8 SJ BJ
                            go_wp2_with fail
                            go_roundw
                            case rel => exact ⟨j + 1, by go_num, by omega, BN⟩
                            case measure => simp [intOf]; omega
                        · have e6 : (ox2 == 2) = false := by simpa using x2'
                          subst o2
                          clear o1 e3
                          as_aux_lemma =>
                            go_wp2_with fail
                            clear x0 x1 x2 x3 x4 x5 x6 q3 q4
                            go_roundw
                            case rel => exact ⟨j + 1, by go_num, by omega, BJ⟩
                            case measure => simp [intOf]; omega
                      · have e5 : (od == 2) = false := by simpa using o2
                        as_aux_lemma =>
                          go_wp2_with fail
                          clear x0 x1 x2 x3 x4 x5 x6 q3 q4
                          go_roundw
                          case rel => exact ⟨j + 1, by go_num, by omega, BJ⟩
                          case measure => simp [intOf]; omega
                · obtain rfl : j = p := by omega
                  have BN := Lib.hid (BK7.out.trans (BJ.out.mono BK7.out.size))
                  clear SJ
                  go_wp2_with fail
                  go_roundw
                  case rel => exact ⟨k + 1, by go_num, by omega, BN⟩
                  case measure => simp [intOf]; omega
          · have S8 := Lib.hid (S6.out.past BK.out)
            go_wp2_with fail
            go_roundw
            case rel => exact ⟨i + 1, F5, T5, by go_num, by omega, by omega, S8⟩
            case measure => simp [intOf]; omega
      · have j2 : ¬ (i : Int) < 20 := by omega
        go_wp2_with fail
        go_ret
        exact ⟨rfl, HS.out.sx.bel⟩
    · go_wp2_with fail
      go_ret
      exact ⟨rfl, HS.out.sx.bel⟩
end Go.Proofs.Ythmcjehpmfebaaa
