/- The walk of LogAll. -/
import Derived.Test.YtnhdehbpcgeceaaLogF
import Derived.Test.YtnhdehbpcgeceaaEntL
import Derived.Test.YtnhdehbpcgeceaaOps
namespace Go.Proofs.Ytnhdehbpcgeceaa
open Go.RowKit

/-- A slice that reads and is apart from the log's blocks, behind a call that wrote the log. -/
theorem Rd.went {w w' : World} {B c k n : Nat} {A : Option Addr} {xs : List Value} {F F' : List Nat} (h : Rd w B A c k n xs) (hd : 0 < n * k → ∀ q ∈ F, bk A ≠ some q) (t : Touch F w w') (f : ∀ q ∈ F', q ∈ F ∨ w.heap.size ≤ q) :
    Rd w' w'.heap.size A c k n xs ∧ (0 < n * k → ∀ q ∈ F', bk A ≠ some q) := by
  refine ⟨(h.touch t hd).tight, fun h0 q hq e => ?_⟩
  rcases f q hq with r | r
  · exact hd h0 q r e
  · exact h.tight.apart (S := [q]) (by simpa using r) h0 q (by simp) e
theorem own_apart {w : World} {base : Nat} {e : TypeId} {k n c : Nat} {A : Option Addr} {xs : List Value} {F : List Nat} (h : w.ownsRow base e k (.slice A n c) n xs) (hF : ∀ q ∈ F, q < base) : 0 < n * k → ∀ q ∈ F, bk A ≠ some q :=
  fun _ q hq e => by have h1 := (Ow.of_own h).low q e; have := hF q hq; omega
theorem Went.lows {w : World} {base : Nat} {F F' : List Nat} (f : ∀ q ∈ F', q ∈ F ∨ w.heap.size ≤ q) (hb : ∀ q ∈ F, base ≤ q) (hs : base ≤ w.heap.size) : ∀ q ∈ F', base ≤ q := fun q hq => (f q hq).elim (hb q) (fun h => Nat.le_trans hs h)

set_option maxHeartbeats 16000000 in
set_option maxRecDepth 100000 in
theorem LogAll_w (w : World) (A : Option Addr) (c n : Nat) (z : List Ent) (AO : Option Addr) (co no : Nat) (zo : List Value) (R : Rd w w.heap.size A c 7 n (els z)) (ok : ∀ e ∈ z, EntOk e) (RO : Rd w w.heap.size AO co 3 no zo) (oko : AllO w zo) :
    Calls Try.prog 3 #[.slice A n c, .slice AO no co] w fun e w' => e = .returned (.bool true) ∧ Below w.heap.size w w' := by
  have P1 := Lib.hid R
  have O1 := Lib.hid ok
  have PO := Lib.hid RO
  have OO := Lib.hid oko
  have hcap := RO.cap
  have hle := RO.le
  have hno : no ≤ 9223372036854775807 := by unfold maxLen at hcap; omega
  clear R ok RO oko hcap hle
  go_enter Try.func3, Try.ntmps3
  go_wp2_with fail
  refine (begun_c w).mono ?_
  rintro x w1 ⟨rfl, b1⟩
  have B1 := Lib.hid b1
  clear b1
  go_wp2_with fail
  refine (lEntries_c w1 A c n z 10 (P1.out.past B1.out).tight O1.out (by omega) (by omega)).mono ?_
  rintro x w2 ⟨A2, c2, es, rfl, hl2, o2, -, b2⟩
  have N2 := Lib.hid (Rd.of_own o2)
  have B2 := Lib.hid (B1.out.trans (b2.mono B1.out.size))
  clear o2 b2 B1 P1 O1 hl2
  go_wp2_with fail
  refine (New_c w2 _ A2 c2 es.length es N2.out).mono ?_
  rintro x w3 ⟨g, F, rfl, l3, f3, b3⟩
  have L3 := Lib.hid l3
  have HF3 := Lib.hid (show ∀ q ∈ F, w.heap.size ≤ q from fun q hq => Nat.le_trans B2.out.size (f3 q hq))
  have N3 := Lib.hid (N2.out.past b3).tight
  have B3 := Lib.hid (B2.out.trans (b3.mono B2.out.size))
  clear l3 f3 b3 B2 N2
  go_wp2_with fail
  refine (rLog_c w3 _ A2 c2 es.length es N3.out).mono ?_
  generalize PLog.log es = W at *
  rintro x w4 ⟨A4, c4, rfl, o4, b4⟩
  have L4 := Lib.hid (L3.out.past b4)
  have D4 := Lib.hid (own_apart o4 L3.out.hi)
  have N4 := Lib.hid (Rd.of_own o4)
  have B4 := Lib.hid (B3.out.trans (b4.mono B3.out.size))
  clear o4 b4 B3 N3 L3
  go_wp2_with fail
  go_loopw [7, 8] (fun s7 s8 wr => ∃ (i m : Nat) (F : List Nat) (A' : Option Addr) (c' : Nat) (L : List Ent), i ≤ no ∧ i ≤ 30 ∧ s8 = .int .i64 i ∧ s7 = .slice A' m c' ∧ Hid (Lg wr g F L) ∧ Hid (Rd wr wr.heap.size A' c' 7 m (els L)) ∧ Hid (0 < m * 7 → ∀ q ∈ F, bk A' ≠ some q) ∧ Hid (∀ q ∈ F, w.heap.size ≤ q) ∧ Hid (Below w.heap.size w wr)) (fun _ s8 _ => no - (intOf s8).toNat)
  case atStart => exact ⟨0, _, F, A4, c4, W, by omega, by omega, rfl, rfl, L4, N4, D4, HF3, B4⟩
  case round =>
    clear L4 N4 D4 HF3 B4
    obtain ⟨i, m, F, A1, c1, L, hi, hi30, rfl, rfl, LG, RL, DJ, HF, BT⟩ := hrel
    by_cases hin : i < no ∧ i < 30
    · obtain ⟨hin, hin30⟩ := hin
      have j30 : (i : Int) < 30 := by omega
      obtain ⟨b, o, k, t, X, mx, cx, l, rfl, d0, d1, d2, rx, okx, ht1, ht2⟩ := PO.out.op OO.out BT.out hin
      have b5 := (Below.refl wr.heap.size wr).alloc (Nat.le_refl _) (.cells #[.int .i64 k, .int .i64 t, .slice X mx cx] 30)
      have K5 := Lib.hid (Blk.new wr #[.int .i64 k, .int .i64 t, .slice X mx cx] 30)
      have RX := Lib.hid (rx.past b5).tight
      have OKX := Lib.hid okx
      have LG5 := Lib.hid (LG.out.past b5)
      have RL5 := Lib.hid (RL.out.past b5).tight
      have B5 := Lib.hid (BT.out.trans (b5.mono BT.out.size))
      have HL := Lib.hid RL.out.elen
      clear b5 rx okx LG RL BT
      go_wp2_with fail
      obtain ⟨gx, hgx⟩ : ∃ x, wr.heap.size = x := ⟨_, rfl⟩
      rw [hgx] at K5 ⊢
      clear hgx d0 d1 d2
      generalize (wr.alloc (.cells #[.int .i64 k, .int .i64 t, .slice X mx cx] 30)) = w5 at *
      refine (lEntries_c w5 X cx mx l 6 RX.out OKX.out (by omega) (by omega)).mono ?_
      rintro x w6 ⟨A6, c6, fs, rfl, hl6, o6, -, b6⟩
      have R6 := Lib.hid (Rd.of_own o6)
      have D6 := Lib.hid (own_apart o6 LG5.out.hi)
      have LG6 := Lib.hid (LG5.out.past b6)
      have RL6 := Lib.hid (RL5.out.past b6).tight
      have K6 := Lib.hid (K5.out.past b6)
      have B6 := Lib.hid (B5.out.trans (b6.mono B5.out.size))
      clear o6 b6 hl6 RX OKX LG5 RL5 K5 B5
      have d0 := K6.out.cell (i := 0) rfl
      have d1 := K6.out.cell (i := 1) rfl
      by_cases hk : k = 0
      · obtain ⟨f, hf⟩ : ∃ f, fs.length = f := ⟨_, rfl⟩
        rw [hf] at R6 D6 ⊢
        by_cases hf0 : f = 0
        · have jf0 : (f : Int) = 0 := by omega
          subst hk
          clear hf hf0
          go_wp2_with fail
          go_roundw
          case rel => exact ⟨i + 1, m, F, A1, c1, L, by omega, by omega, by go_num, rfl, LG6, RL6, DJ, HF, B6⟩
          case measure => simp [intOf]; omega
        · have jf0 : ¬ (f : Int) = 0 := by omega
          have jf1 : 0 < f := by omega
          obtain ⟨b', o', e, rfl, -, he, -, e0, e1, e2, e3, e4, e5, e6⟩ := R6.out.ent jf1
          have HE := Lib.hid he
          subst hk
          clear he hf hf0
          rw [Nat.zero_mul, Nat.add_zero] at e0 e1 e2 e3 e4 e5 e6
          go_wp2_with fail
          clear d0 d1 e0 e1 e2 e3 e4 e5 e6
          cases hc : PLog.can L e
          · have HC := Lib.hid hc
            refine (rAdd_no w6 _ A1 c1 m L RL6.out e hc).mono ?_
            clear hc
            rintro x w7 ⟨rfl, b7⟩
            obtain ⟨b2, o2, e', hA', -, he', -, e0, e1, e2, e3, e4, e5, e6⟩ := (R6.out.past b7).ent jf1
            cases hA'
            obtain rfl : e = e' := Option.some.inj (HE.out.symm.trans he')
            rw [Nat.zero_mul, Nat.add_zero] at e0 e1 e2 e3 e4 e5 e6
            have LG7 := Lib.hid (LG6.out.past b7)
            have RL7 := Lib.hid (RL6.out.past b7).tight
            have B7 := Lib.hid (B6.out.trans (b7.mono B6.out.size))
            have HAD := Lib.hid (show PLog.add L e = L by unfold PLog.add; rw [HC.out]; rfl)
            clear b7 he'
            go_wp2_with fail
            clear e0 e1 e2 e3 e4 e5 e6
            refine (Add_c w7 g F L LG7.out e).mono ?_
            rw [HC.out, HAD.out]
            rintro x w9 ⟨rfl, ⟨⟨F9, l9, f9⟩, t9⟩⟩
            obtain ⟨r9, d9⟩ := RL7.out.went DJ.out t9 f9
            have L9 := Lib.hid l9
            have HR9 := Lib.hid r9
            have D9 := Lib.hid d9
            have HF9 := Lib.hid (Went.lows (w := w7) f9 HF.out B7.out.size)
            have B9 := Lib.hid (B7.out.trans (t9.below HF.out B7.out.size))
            clear l9 f9 t9 r9 d9
            go_wp2_with fail
            have N9 := Lib.hid HR9.out
            refine (same_c w9 g F9 _ L9.out _ A1 c1 m N9.out).mono ?_
            rintro x w10 ⟨rfl, b10⟩
            have L10 := Lib.hid (L9.out.past b10)
            have R10 := Lib.hid ((HR9.out.past b10).tight)
            have B10 := Lib.hid (B9.out.trans (b10.mono B9.out.size))
            clear b10
            go_wp2_with fail
            go_roundw
            case rel => exact ⟨i + 1, m, F9, A1, c1, _, by omega, by omega, by go_num, rfl, L10, R10, D9, HF9, B10⟩
            case measure => simp [intOf]; omega
          · have HC := Lib.hid hc
            refine (rAdd_yes w6 _ A1 c1 m L RL6.out e hc).mono ?_
            clear hc
            rintro x w7 ⟨A7, c7, rfl, o7, b7⟩
            obtain ⟨b2, o2, e', hA', -, he', -, e0, e1, e2, e3, e4, e5, e6⟩ := (R6.out.past b7).ent jf1
            cases hA'
            obtain rfl : e = e' := Option.some.inj (HE.out.symm.trans he')
            rw [Nat.zero_mul, Nat.add_zero] at e0 e1 e2 e3 e4 e5 e6
            have LG7 := Lib.hid (LG6.out.past b7)
            have RL7 := Lib.hid (Rd.of_own o7)
            have DJ7 := Lib.hid (own_apart o7 LG6.out.hi)
            have B7 := Lib.hid (B6.out.trans (b7.mono B6.out.size))
            have HAD := Lib.hid (show PLog.add L e = L ++ [e] by unfold PLog.add; rw [HC.out]; rfl)
            clear b7 he' o7
            go_wp2_with fail
            clear e0 e1 e2 e3 e4 e5 e6
            refine (Add_c w7 g F L LG7.out e).mono ?_
            rw [HC.out, HAD.out]
            rintro x w9 ⟨rfl, ⟨⟨F9, l9, f9⟩, t9⟩⟩
            obtain ⟨r9, d9⟩ := RL7.out.went DJ7.out t9 f9
            have L9 := Lib.hid l9
            have HR9 := Lib.hid r9
            have D9 := Lib.hid d9
            have HF9 := Lib.hid (Went.lows (w := w7) f9 HF.out B7.out.size)
            have B9 := Lib.hid (B7.out.trans (t9.below HF.out B7.out.size))
            clear l9 f9 t9 r9 d9
            go_wp2_with fail
            have N9 := Lib.hid HR9.out
            refine (same_c w9 g F9 _ L9.out _ A7 c7 (m + 1) N9.out).mono ?_
            rintro x w10 ⟨rfl, b10⟩
            have L10 := Lib.hid (L9.out.past b10)
            have R10 := Lib.hid ((HR9.out.past b10).tight)
            have B10 := Lib.hid (B9.out.trans (b10.mono B9.out.size))
            clear b10
            go_wp2_with fail
            go_roundw
            case rel => exact ⟨i + 1, (m + 1), F9, A7, c7, _, by omega, by omega, by go_num, rfl, L10, R10, D9, HF9, B10⟩
            case measure => simp [intOf]; omega
      · by_cases hout : t < 0 ∨ (m : Int) < t
        · go_wp2_with fail
          clear d0 d1
          refine (rPut_out w6 A1 m c1 t hout A6 fs.length c6).mono ?_
          rintro x w' ⟨rfl, rfl⟩
          have d0 := K6.out.cell (i := 0) rfl
          have d1 := K6.out.cell (i := 1) rfl
          go_wp2_with fail
          clear d0 d1
          refine (Put_out w6 g F L LG6.out t (by rw [HL.out]; exact hout) A6 c6 fs.length).mono ?_
          rintro x w9 ⟨rfl, rfl⟩
          have L9 := LG6
          have HR9 := RL6
          have D9 := DJ
          have HF9 := HF
          have B9 := B6
          go_wp2_with fail
          have N9 := Lib.hid HR9.out
          refine (same_c w6 g F _ L9.out _ A1 c1 m N9.out).mono ?_
          rintro x w10 ⟨rfl, b10⟩
          have L10 := Lib.hid (L9.out.past b10)
          have R10 := Lib.hid ((HR9.out.past b10).tight)
          have B10 := Lib.hid (B9.out.trans (b10.mono B9.out.size))
          clear b10
          go_wp2_with fail
          go_roundw
          case rel => exact ⟨i + 1, m, F, A1, c1, _, by omega, by omega, by go_num, rfl, L10, R10, D9, HF9, B10⟩
          case measure => simp [intOf]; omega
        · obtain ⟨s, rfl⟩ := Int.eq_ofNat_of_zero_le (show 0 ≤ t by omega)
          have hsm : s ≤ m := by omega
          clear hout
          go_wp2_with fail
          clear d0 d1
          refine (rPut_c w6 A1 m c1 L RL6.out s hsm A6 fs.length c6 fs R6.out).mono ?_
          rintro x w7 ⟨A7, m7, c7, rfl, hp7, b7⟩
          have d0 := (K6.out.past b7).cell (i := 0) rfl
          have d1 := (K6.out.past b7).cell (i := 1) rfl
          have LG7 := Lib.hid (LG6.out.past b7)
          have RL7 := Lib.hid (show Rd w7 w7.heap.size A7 c7 7 m7 (els (PLog.put L s fs)) ∧ (0 < m7 * 7 → ∀ q ∈ F, bk A7 ≠ some q) from by
            rcases hp7 with ⟨rfl, rfl, rfl, hq⟩ | ⟨_, hq⟩
            · rw [hq]; exact ⟨(RL6.out.past b7).tight, DJ.out⟩
            · exact ⟨Rd.of_own hq, own_apart hq LG6.out.hi⟩)
          have R7 := Lib.hid (R6.out.past b7)
          have B7 := Lib.hid (B6.out.trans (b7.mono B6.out.size))
          clear b7 hp7
          obtain ⟨bb, hbb⟩ : ∃ bb, PLog.okPut L s fs = bb := ⟨_, rfl⟩
          obtain ⟨L', hL'⟩ : ∃ L', PLog.put L s fs = L' := ⟨_, rfl⟩
          have HBB := Lib.hid hbb
          have HLL := Lib.hid hL'
          rw [hL'] at RL7
          rw [hbb]
          clear hbb hL'
          go_wp2_with fail
          clear d0 d1
          refine (Put_in w7 g F L LG7.out s (by rw [HL.out]; exact hsm) _ A6 c6 fs.length fs R7.out D6.out).mono ?_
          rw [HBB.out, HLL.out]
          rintro x w9 ⟨rfl, ⟨⟨F9, l9, f9⟩, t9⟩⟩
          obtain ⟨r9, d9⟩ := RL7.out.1.went RL7.out.2 t9 f9
          have L9 := Lib.hid l9
          have HR9 := Lib.hid r9
          have D9 := Lib.hid d9
          have HF9 := Lib.hid (Went.lows (w := w7) f9 HF.out B7.out.size)
          have B9 := Lib.hid (B7.out.trans (t9.below HF.out B7.out.size))
          clear l9 f9 t9 r9 d9
          cases bb
          · go_wp2_with fail
            have N9 := Lib.hid HR9.out
            refine (same_c w9 g F9 _ L9.out _ A7 c7 m7 N9.out).mono ?_
            rintro x w10 ⟨rfl, b10⟩
            have L10 := Lib.hid (L9.out.past b10)
            have R10 := Lib.hid ((HR9.out.past b10).tight)
            have B10 := Lib.hid (B9.out.trans (b10.mono B9.out.size))
            clear b10
            go_wp2_with fail
            go_roundw
            case rel => exact ⟨i + 1, m7, F9, A7, c7, _, by omega, by omega, by go_num, rfl, L10, R10, D9, HF9, B10⟩
            case measure => simp [intOf]; omega
          · go_wp2_with fail
            have N9 := Lib.hid HR9.out
            refine (same_c w9 g F9 _ L9.out _ A7 c7 m7 N9.out).mono ?_
            rintro x w10 ⟨rfl, b10⟩
            have L10 := Lib.hid (L9.out.past b10)
            have R10 := Lib.hid ((HR9.out.past b10).tight)
            have B10 := Lib.hid (B9.out.trans (b10.mono B9.out.size))
            clear b10
            go_wp2_with fail
            go_roundw
            case rel => exact ⟨i + 1, m7, F9, A7, c7, _, by omega, by omega, by go_num, rfl, L10, R10, D9, HF9, B10⟩
            case measure => simp [intOf]; omega
    · by_cases hin2 : i < no
      · have j30 : ¬ (i : Int) < 30 := by omega
        clear hin
        go_wp2_with fail
        refine (same_c wr g F L LG.out _ A1 c1 m RL.out).mono ?_
        rintro x w6 ⟨rfl, b6⟩
        go_wp2_with fail
        go_ret
        exact ⟨rfl, BT.out.trans (b6.mono BT.out.size)⟩
      · clear hin
        go_wp2_with fail
        refine (same_c wr g F L LG.out _ A1 c1 m RL.out).mono ?_
        rintro x w6 ⟨rfl, b6⟩
        go_wp2_with fail
        go_ret
        exact ⟨rfl, BT.out.trans (b6.mono BT.out.size)⟩
end Go.Proofs.Ytnhdehbpcgeceaa
