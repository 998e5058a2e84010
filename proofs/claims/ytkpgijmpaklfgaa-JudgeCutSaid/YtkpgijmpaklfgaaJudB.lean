/- Contracts of package judge: isFirm, Firm, areEq, Prefix, Agree. -/
import Derived.Test.YtkpgijmpaklfgaaJudA
import Derived.Test.YtkpgijmpaklfgaaEntEq
import Derived.Lib.MinMax
namespace Go.Proofs.Ytkpgijmpaklfgaa
open Go.RowKit PReady PJud

set_option maxRecDepth 100000 in
theorem isFirm_c (w : World) (e : Ent) : Calls Try.prog 20 #[ev e] w fun x w' => x = .returned (.bool (isF e)) ∧ Below w.heap.size w w' := by
  obtain ⟨fr, boot, seq, ord, lev, stamp, data⟩ := e
  have B0 := Lib.hid ((Below.refl w.heap.size w).alloc (Nat.le_refl _) (.cells #[.int .i64 fr, .int .i64 boot, .int .i64 seq, .int .i64 ord, .int .i64 lev, .int .i64 stamp, .string data] 30))
  by_cases h1 : ord = 1
  · subst h1
    by_cases h2 : lev = 1
    · subst h2
      have HR := Lib.hid (show isF ⟨fr, boot, seq, 1, 1, stamp, data⟩ = true by simp [isF])
      show Calls _ _ #[.agg #[.int .i64 fr, .int .i64 boot, .int .i64 seq, .int .i64 1, .int .i64 1, .int .i64 stamp, .string data]] _ _
      go_enter Try.func20, Try.ntmps20
      go_wp2_with fail
      go_ret
      exact ⟨by rw [HR.out]; rfl, B0.out⟩
    · have e2 : (lev == 1) = false := by simpa using h2
      by_cases h3 : lev = 2
      · subst h3
        have HR := Lib.hid (show isF ⟨fr, boot, seq, 1, 2, stamp, data⟩ = true by simp [isF])
        show Calls _ _ #[.agg #[.int .i64 fr, .int .i64 boot, .int .i64 seq, .int .i64 1, .int .i64 2, .int .i64 stamp, .string data]] _ _
        go_enter Try.func20, Try.ntmps20
        go_wp2_with fail
        go_ret
        exact ⟨by rw [HR.out]; rfl, B0.out⟩
      · have e3 : (lev == 2) = false := by simpa using h3
        have HR := Lib.hid (show isF ⟨fr, boot, seq, 1, lev, stamp, data⟩ = false by simp [isF, h2, h3])
        show Calls _ _ #[.agg #[.int .i64 fr, .int .i64 boot, .int .i64 seq, .int .i64 1, .int .i64 lev, .int .i64 stamp, .string data]] _ _
        go_enter Try.func20, Try.ntmps20
        go_wp2_with fail
        go_ret
        exact ⟨by rw [HR.out]; rfl, B0.out⟩
  · have e1 : (ord == 1) = false := by simpa using h1
    have HR := Lib.hid (show isF ⟨fr, boot, seq, ord, lev, stamp, data⟩ = false by simp [isF, h1])
    show Calls _ _ #[.agg #[.int .i64 fr, .int .i64 boot, .int .i64 seq, .int .i64 ord, .int .i64 lev, .int .i64 stamp, .string data]] _ _
    go_enter Try.func20, Try.ntmps20
    go_wp2_with fail
    go_ret
    exact ⟨by rw [HR.out]; rfl, B0.out⟩

theorem take_stepT {l : List Tl} {i : Nat} {t : Tl} (he : l[i]? = some t) : l.take (i + 1) = l.take i ++ [t] := by
  obtain ⟨hi, rfl⟩ := List.getElem?_eq_some_iff.1 he
  exact (List.take_append_getElem hi).symm

set_option maxHeartbeats 4000000 in
set_option maxRecDepth 100000 in
theorem jFirm_c (w : World) (B : Nat) (A : Option Addr) (c n : Nat) (l : List Tl) (h : Rd w B A c 8 n (tls l)) (hn : n ≤ 1000000) :
    Calls Try.prog 13 #[.slice A n c] w fun x w' => ∃ (A' : Option Addr) (c' : Nat), x = .returned (.slice A' (firm l).length c') ∧
      w'.ownsRow w.heap.size 30 7 (.slice A' (firm l).length c') (firm l).length (els (firm l)) ∧ Below w.heap.size w w' := by
  have HL := Lib.hid h.tlen
  have R0 := Lib.hid h.tight
  clear h
  go_enter Try.func13, Try.ntmps13
  go_wp2_with fail
  go_loopw [3, 8] (fun s3 s8 wr => ∃ (i k c' : Nat) (A' : Option Addr), i ≤ n ∧ s8 = .int .i64 i ∧ s3 = .slice A' k c' ∧ Hid (k = (firm (l.take i)).length) ∧ k ≤ i ∧
      Hid (wr.ownsRow w.heap.size 30 7 (.slice A' k c') k (els (firm (l.take i)))) ∧ Hid (Below w.heap.size w wr))
    (fun _ s8 _ => n - (intOf s8).toNat)
  case atStart => exact ⟨0, 0, 0, none, by omega, rfl, rfl, Lib.hid rfl, by omega, Lib.hid (World.ownsRow_nil _ _ _ _), Lib.hid (Below.refl _ _)⟩
  case round =>
    obtain ⟨i, k, c1, A1, hi, rfl, rfl, HK, hki, O, BL⟩ := hrel
    by_cases hin : i < n
    · obtain ⟨b, o, t, rfl, -, he, -, d0, d1, d2, d3, d4, d5, d6, d7⟩ := (R0.out.below BL.out).told8 hin
      have HT := Lib.hid (take_stepT he)
      have K0 := Blk.newTold wr 32 t
      have B0 := BL.out.alloc BL.out.size (.cells #[.int .i64 t.1, .int .i64 t.2.fr, .int .i64 t.2.boot, .int .i64 t.2.seq, .int .i64 t.2.ord, .int .i64 t.2.lev, .int .i64 t.2.stamp, .string t.2.data] 32)
      have O0 := own_below O.out ((Below.refl _ _).alloc (Nat.le_refl _) (.cells #[.int .i64 t.1, .int .i64 t.2.fr, .int .i64 t.2.boot, .int .i64 t.2.seq, .int .i64 t.2.ord, .int .i64 t.2.lev, .int .i64 t.2.stamp, .string t.2.data] 32))
      have HX := Lib.hid (And.intro K0 (And.intro B0 O0))
      clear he K0 B0 O0
      have HF := Lib.hid (isFirm_c (wr.alloc (.cells #[.int .i64 t.1, .int .i64 t.2.fr, .int .i64 t.2.boot, .int .i64 t.2.seq, .int .i64 t.2.ord, .int .i64 t.2.lev, .int .i64 t.2.stamp, .string t.2.data] 32)) t.2)
      cases hq : isF t.2
      · rw [hq] at HF
        have HE := Lib.hid (show firm (l.take (i + 1)) = firm (l.take i) by rw [HT.out, firm_snoc, hq]; simp)
        clear hq
        go_wp2_with fail
        refine HF.out.mono ?_
        rintro x w1 ⟨rfl, b1⟩
        have B1 := Lib.hid (HX.out.2.1.trans (b1.mono HX.out.2.1.size))
        have O1 := Lib.hid (own_below HX.out.2.2 b1)
        clear b1 d0 d1 d2 d3 d4 d5 d6 d7 HX HF O BL
        go_wp2_with fail
        go_roundw
        case rel => exact ⟨i + 1, k, c1, A1, by omega, by go_num, rfl, Lib.hid (by rw [HE.out]; exact HK.out), by omega, by rw [HE.out]; exact O1, B1⟩
        case measure => simp [intOf]; omega
      · rw [hq] at HF
        have HE := Lib.hid (show firm (l.take (i + 1)) = firm (l.take i) ++ [t.2] by rw [HT.out, firm_snoc, hq]; simp)
        clear hq
        go_wp2_with fail
        refine HF.out.mono ?_
        rintro x w1 ⟨rfl, b1⟩
        have B1 := Lib.hid (HX.out.2.1.trans (b1.mono HX.out.2.1.size))
        have O1 := Lib.hid (own_below HX.out.2.2 b1)
        have K1 := HX.out.1.past b1
        have e1 := K1.cell (i := 1) rfl
        have e2 := K1.cell (i := 2) rfl
        have e3 := K1.cell (i := 3) rfl
        have e4 := K1.cell (i := 4) rfl
        have e5 := K1.cell (i := 5) rfl
        have e6 := K1.cell (i := 6) rfl
        have e7 := K1.cell (i := 7) rfl
        clear b1 d0 d1 d2 d3 d4 d5 d6 d7 HX HF O BL K1
        go_wp2_with (at_builtin; go_must (refine wpList_pushes rfl (.tmp 15) (.tmp 18) _ rfl w.heap.size 30 (ev zeroE) 7 64 1 Try.underlying23 ent_info rfl (by omega) rfl (by unfold maxLen; omega) A1 c1 k (els (firm (l.take i))) rfl O1.out rfl ?h1 ?h2 ?h3 ?h4 ?_))
        case h1 => exact ⟨rfl, rfl, rfl, rfl, rfl, rfl, rfl⟩
        case h2 => unfold maxLen; omega
        case h3 => omega
        case h4 => exact B1.out.size
        intro A2 c2 w2 hown2 hg2 hb2
        have B2 := Lib.hid (B1.out.trans hb2)
        have O2 := Lib.hid (show w2.ownsRow w.heap.size 30 7 (.slice A2 (k + 1) c2) (k + 1) (els (firm (l.take (i + 1)))) by rw [HE.out, els_append]; exact hown2)
        clear hown2 hg2 hb2 B1 O1 e1 e2 e3 e4 e5 e6 e7
        go_wp2_with fail
        go_roundw
        case rel => exact ⟨i + 1, k + 1, c2, A2, by omega, by go_num, rfl, Lib.hid (by rw [HE.out, List.length_append, ← HK.out]; rfl), by omega, O2, B2⟩
        case measure => simp [intOf]; omega
    · obtain rfl : i = n := by omega
      have HE := Lib.hid (show l.take i = l by rw [List.take_of_length_le (by rw [HL.out]; omega)])
      go_wp2_with fail
      go_ret
      have h1 := HK.out
      have h2 := O.out
      rw [HE.out] at h1 h2
      rw [← h1]
      exact ⟨A1, c1, rfl, h2, BL.out⟩

set_option maxHeartbeats 4000000 in
set_option maxRecDepth 100000 in
theorem areEq_c (w : World) (B1 B2 : Nat) (A A2 : Option Addr) (c c2 n n2 : Nat) (l m : List Ent) (h : Rd w B1 A c 7 n (els l)) (h2 : Rd w B2 A2 c2 7 n2 (els m)) (k : Int) (hk1 : k ≤ n) (hk2 : k ≤ n2) (hk : -9223372036854775808 ≤ k) :
    Calls Try.prog 21 #[.slice A n c, .slice A2 n2 c2, .int .i64 k] w fun x w' => x = .returned (.bool (eqN l m k.toNat)) ∧ Below w.heap.size w w' := by
  have HL1 := Lib.hid h.elen
  have HL2 := Lib.hid h2.elen
  have hcap := h.cap
  have hle := h.le
  have hn : n ≤ 9223372036854775807 := by unfold maxLen at hcap; omega
  have R1 := Lib.hid h.tight
  have R2 := Lib.hid h2.tight
  clear h h2 hcap hle
  go_enter Try.func21, Try.ntmps21
  go_wp2_with fail
  go_loopw [9] (fun s9 wr => ∃ i : Nat, s9 = .int .i64 i ∧ i ≤ k.toNat ∧ Hid (eqN l m i = true) ∧ Hid (Below w.heap.size w wr)) (fun s9 _ => k.toNat - (intOf s9).toNat)
  case atStart => exact ⟨0, rfl, by omega, Lib.hid (eqN_zero _ _), Lib.hid (Below.refl _ _)⟩
  case round =>
    obtain ⟨i, rfl, hi, HQ, BL⟩ := hrel
    by_cases hlt : (i : Int) < k
    · obtain ⟨b1, o1, x1, rfl, hb1, he1, -, hr1⟩ := (R1.out.below BL.out).entR (i := i) (by omega)
      obtain ⟨b2, o2, x2, rfl, hb2, he2, -, hr2⟩ := (R2.out.below BL.out).entR (i := i) (by omega)
      have HS := Lib.hid (eqN_succ he1 he2)
      have HB1 := Lib.hid (show b1 < wr.drew.heap.size from Nat.lt_of_lt_of_le hb1 BL.out.size)
      have HB2 := Lib.hid (show b2 < wr.drew.heap.size from Nat.lt_of_lt_of_le hb2 BL.out.size)
      have HR1 := Lib.hid (show wr.drew.rangeAt b1 (o1 + i * 7) (ecs x1) from hr1)
      have HR2 := Lib.hid (show wr.drew.rangeAt b2 (o2 + i * 7) (ecs x2) from hr2)
      clear he1 he2 hb1 hb2 hr1 hr2
      cases hq : PEnt.eqE x1 x2
      · have HE := Lib.hid (show eqN l m k.toNat = false from eqN_false (n := i + 1) (by omega) (by rw [HL1.out]; omega) (by rw [HL2.out]; omega) (by rw [HS.out, hq, Bool.and_false]))
        have HK := Lib.hid hq
        clear hq
        go_wp2_with fail
-- REGION curfew/judge.areEq 4 jeqf 8
        refine Hb.begin ?_
        refine Hb.take (v := .slice (some ⟨b1, o1, none⟩) n c) 0 12 rfl ?_ (fun _ _ => rfl)
        refine Hb.take (v := .int .i64 (i : Int)) 1 13 rfl ?_ (fun _ _ => rfl)
        refine Hb.take (v := .pointer (some ⟨b1, o1 + i * 7, none⟩)) 2 14 rfl ?_ (fun w' hw' => by go_simp; first | done | rfl | omega | exact wrap_in (by omega) (by omega) | exact Int.tmod_eq_emod_of_nonneg (by omega) | exact Int.tdiv_eq_ediv_of_nonneg (by omega) | (simp; omega))
        refine Hb.take (v := ev x1) 3 15 rfl ?_ (fun w' hw' => by exact run_loadE (rangeAt_below HR1.out hw' HB1.out) rfl)
        refine Hb.take (v := .slice (some ⟨b2, o2, none⟩) n2 c2) 4 16 rfl ?_ (fun _ _ => rfl)
        refine Hb.take (v := .int .i64 (i : Int)) 5 17 rfl ?_ (fun _ _ => rfl)
        refine Hb.take (v := .pointer (some ⟨b2, o2 + i * 7, none⟩)) 6 18 rfl ?_ (fun w' hw' => by go_simp; first | done | rfl | omega | exact wrap_in (by omega) (by omega) | exact Int.tmod_eq_emod_of_nonneg (by omega) | exact Int.tdiv_eq_ediv_of_nonneg (by omega) | (simp; omega))
        refine Hb.take (v := ev x2) 7 19 rfl ?_ (fun w' hw' => by exact run_loadE (rangeAt_below HR2.out hw' HB2.out) rfl)
        refine Hb.call (f := 25) (args := #[ev x1, ev x2]) 8 20 rfl ?_ (run_callf Try.func25 (by kernel_rfl) (by kernel_rfl) (by simp only [List.map_toArray, List.map_cons, List.map_nil]; rfl))
        refine (Eq_c wr.drew x1 x2).mono ?_
        rw [HK.out]
        rintro x w3 ⟨rfl, b3⟩
        refine Hb.back b3 (Nat.le_refl _) ?_
        refine Hb.take (v := .bool true) 9 21 rfl ?_ (fun w' hw' => by go_simp; first | done | rfl | omega | exact wrap_in (by omega) (by omega) | exact Int.tmod_eq_emod_of_nonneg (by omega) | exact Int.tdiv_eq_ediv_of_nonneg (by omega) | (simp; omega))
        refine Hb.done ?_
-- END
        go_wp2_with fail
        go_ret
        exact ⟨by rw [HE.out]; rfl, BL.out.drew.trans (b3.mono BL.out.size)⟩
      · have HE := Lib.hid (show eqN l m (i + 1) = true by rw [HS.out, hq, HQ.out]; rfl)
        have HK := Lib.hid hq
        clear hq
        go_wp2_with fail
-- REGION curfew/judge.areEq 4 jeqt 8
        refine Hb.begin ?_
        refine Hb.take (v := .slice (some ⟨b1, o1, none⟩) n c) 0 12 rfl ?_ (fun _ _ => rfl)
        refine Hb.take (v := .int .i64 (i : Int)) 1 13 rfl ?_ (fun _ _ => rfl)
        refine Hb.take (v := .pointer (some ⟨b1, o1 + i * 7, none⟩)) 2 14 rfl ?_ (fun w' hw' => by go_simp; first | done | rfl | omega | exact wrap_in (by omega) (by omega) | exact Int.tmod_eq_emod_of_nonneg (by omega) | exact Int.tdiv_eq_ediv_of_nonneg (by omega) | (simp; omega))
        refine Hb.take (v := ev x1) 3 15 rfl ?_ (fun w' hw' => by exact run_loadE (rangeAt_below HR1.out hw' HB1.out) rfl)
        refine Hb.take (v := .slice (some ⟨b2, o2, none⟩) n2 c2) 4 16 rfl ?_ (fun _ _ => rfl)
        refine Hb.take (v := .int .i64 (i : Int)) 5 17 rfl ?_ (fun _ _ => rfl)
        refine Hb.take (v := .pointer (some ⟨b2, o2 + i * 7, none⟩)) 6 18 rfl ?_ (fun w' hw' => by go_simp; first | done | rfl | omega | exact wrap_in (by omega) (by omega) | exact Int.tmod_eq_emod_of_nonneg (by omega) | exact Int.tdiv_eq_ediv_of_nonneg (by omega) | (simp; omega))
        refine Hb.take (v := ev x2) 7 19 rfl ?_ (fun w' hw' => by exact run_loadE (rangeAt_below HR2.out hw' HB2.out) rfl)
        refine Hb.call (f := 25) (args := #[ev x1, ev x2]) 8 20 rfl ?_ (run_callf Try.func25 (by kernel_rfl) (by kernel_rfl) (by simp only [List.map_toArray, List.map_cons, List.map_nil]; rfl))
        refine (Eq_c wr.drew x1 x2).mono ?_
        rw [HK.out]
        rintro x w3 ⟨rfl, b3⟩
        refine Hb.back b3 (Nat.le_refl _) ?_
        refine Hb.take (v := .bool false) 9 21 rfl ?_ (fun w' hw' => by go_simp; first | done | rfl | omega | exact wrap_in (by omega) (by omega) | exact Int.tmod_eq_emod_of_nonneg (by omega) | exact Int.tdiv_eq_ediv_of_nonneg (by omega) | (simp; omega))
        refine Hb.done ?_
-- END
        go_wp2_with fail
        go_roundw
        case rel => exact ⟨i + 1, by go_num, by omega, HE, Lib.hid (BL.out.drew.trans (b3.mono BL.out.size))⟩
        case measure => simp [intOf]; omega
    · have HE := Lib.hid (show eqN l m k.toNat = true by have := HQ.out; rwa [show i = k.toNat by omega] at this)
      go_wp2_with fail
      go_ret
      exact ⟨by rw [HE.out]; rfl, BL.out⟩

set_option maxHeartbeats 4000000 in
set_option maxRecDepth 100000 in
theorem jPrefix_c (w : World) (B1 B2 : Nat) (A A2 : Option Addr) (c c2 n n2 : Nat) (l m : List Tl) (h : Rd w B1 A c 8 n (tls l)) (h2 : Rd w B2 A2 c2 8 n2 (tls m)) (hn : n ≤ 1000000) (hn2 : n2 ≤ 1000000) :
    Calls Try.prog 14 #[.slice A n c, .slice A2 n2 c2] w fun x w' => x = .returned (.bool (pfx l m)) ∧ Below w.heap.size w w' := by
  have R1 := Lib.hid h.tight
  have R2 := Lib.hid h2.tight
  have hf1 := firm_len l
  have hf2 := firm_len m
  rw [h.tlen] at hf1
  rw [h2.tlen] at hf2
  clear h h2
  go_enter Try.func14, Try.ntmps14
  go_wp2_with fail
  refine (jFirm_c w w.heap.size A c n l R1.out hn).mono ?_
  rintro x w1 ⟨A3, c3, rfl, own1, b1⟩
  have Q1 := Lib.hid (Rd.of_own own1)
  have R3 := Lib.hid (R2.out.past b1)
  have BB1 := Lib.hid b1
  clear own1 b1
  go_wp2_with fail
  refine (jFirm_c w1 w.heap.size A2 c2 n2 m R3.out hn2).mono ?_
  rintro x w2 ⟨A4, c4, rfl, own2, b2⟩
  have Q2 := Lib.hid (Rd.of_own own2)
  have Q3 := Lib.hid (Q1.out.tight.past b2)
  have BB2 := Lib.hid (BB1.out.trans (b2.mono BB1.out.size))
  clear own2 b2
  go_wp2_with fail
  refine (areEq_c w2 _ _ A3 A4 c3 c4 (firm l).length (firm m).length (firm l) (firm m) Q3.out Q2.out _ (by omega) (by omega) (by omega)).mono ?_
  rintro x w3 ⟨rfl, b3⟩
  have HE := Lib.hid (show eqN (firm l) (firm m) (min ((firm l).length : Int) ((firm m).length : Int)).toNat = pfx l m by unfold pfx; congr 1; omega)
  have BB3 := Lib.hid (BB2.out.trans (b3.mono BB2.out.size))
  clear b3
  go_wp2_with fail
  go_ret
  exact ⟨by rw [HE.out]; rfl, BB3.out⟩

theorem run_min4 {P : Program} (w : World) (ts : Array TypeId) (t : TypeId) (k k2 k3 k4 : IntKind) (x y z u : Int) :
    (Builtin.min_ ts t #[.int k x, .int k2 y, .int k3 z, .int k4 u]).run P w = .ok (.int k (min x (min y (min z u)))) w := by
  have e1 : (if y < x then y else x) = min x y := by
    rw [Int.min_def]
    split <;> split <;> omega
  have e2 : (if z < min x y then z else min x y) = min x (min y z) := by
    rw [← Int.min_assoc, Int.min_def (min x y) z]
    split <;> split <;> omega
  have e3 : (if u < min x (min y z) then u else min x (min y z)) = min x (min y (min z u)) := by
    rw [show min x (min y (min z u)) = min (min x (min y z)) u by omega, Int.min_def (min x (min y z)) u]
    split <;> split <;> omega
  simp [Builtin.min_, Builtin.min2, e1, e2, e3]
theorem wpList_min4 {P : Program} {w : World} {ops : Array Oper} {rest : List Oper} {o : Oper} {a : Act} {Q : Exit → Act → World → Prop} (hg : o.guard = none) (p q r s : Operand) (ts : Array TypeId)
    (hop : o.op = Op.call { callee := Callee.builtin Builtin.min, args := #[p, q, r, s], argTypes := ts }) {k k2 k3 k4 : IntKind} {x y z u : Int} (h1 : a.eval p = .int k x) (h2 : a.eval q = .int k2 y) (h3 : a.eval r = .int k3 z) (h4 : a.eval s = .int k4 u)
    (hK : wpList P ops Q rest (a.put o.dst (.int k (min x (min y (min z u))))) w) : wpList P ops Q (o :: rest) a w := by
  refine wpList_plain hg fun K' hK' => ?_
  unfold Oper.wp
  simp [execOp, hop, resolve, invoke, builtin, h1, h2, h3, h4, run_min4, Result.andThen]
  exact hK' _ _ hK

set_option maxHeartbeats 4000000 in
set_option maxRecDepth 100000 in
theorem jAgree_c (w : World) (B1 B2 : Nat) (A A2 : Option Addr) (c c2 n n2 : Nat) (l m : List Ent) (h : Rd w B1 A c 7 n (els l)) (h2 : Rd w B2 A2 c2 7 n2 (els m)) (x y : Int) (hx : -9223372036854775808 ≤ x) (hy : -9223372036854775808 ≤ y) :
    Calls Try.prog 17 #[.slice A n c, .int .i64 x, .slice A2 n2 c2, .int .i64 y] w fun e w' => e = .returned (.bool (agree l x m y)) ∧ Below w.heap.size w w' := by
  have HL1 := Lib.hid h.elen
  have HL2 := Lib.hid h2.elen
  have R1 := Lib.hid h.tight
  have R2 := Lib.hid h2.tight
  clear h h2
  go_enter Try.func17, Try.ntmps17
  go_wp2_with ((with_reducible show wpList _ _ _ ((⟨some 17, Op.call _, _, _, _, _⟩ : Oper) :: _) _ _); go_must (refine wpList_min4 rfl (.tmp 11) (.tmp 13) (.tmp 14) (.tmp 16) _ rfl rfl rfl rfl rfl ?_))
  refine (areEq_c w _ _ A A2 c c2 n n2 l m R1.out R2.out (min x (min (n : Int) (min y (n2 : Int)))) (by omega) (by omega) (by omega)).mono ?_
  rintro e w1 ⟨rfl, b1⟩
  have HE := Lib.hid (show eqN l m (min x (min (n : Int) (min y (n2 : Int)))).toNat = agree l x m y by unfold agree less; rw [HL1.out, HL2.out]; congr 1; omega)
  have BB1 := Lib.hid b1
  clear b1
  go_wp2_with fail
  go_ret
  exact ⟨by rw [HE.out]; rfl, BB1.out⟩
end Go.Proofs.Ytkpgijmpaklfgaa
