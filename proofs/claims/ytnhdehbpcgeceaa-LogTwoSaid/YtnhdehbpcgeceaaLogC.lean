/- Contracts of the log's New, addAll, Put, From; of all methods at no log. -/
import Derived.Test.YtnhdehbpcgeceaaLogB
namespace Go.Proofs.Ytnhdehbpcgeceaa
open Go.RowKit

theorem run_short {P : Program} {w : World} (t e : TypeId) {z : Option Value} {k bytes : Nat} (ht : P.underlying t = some (.slice e)) (hi : (P.info? e).map (fun i => (i.zero, i.size, i.bytes)) = some (z, k, bytes))
    (A : Option Addr) (n c m : Nat) (hm : m ≤ c) : (Instr.sliceAt t (.slice A n c) none (some (.int .i64 m)) none).run P w = .ok (.slice A m c) w := by
  rw [run_cut t e ht hi A n c none (some (.int .i64 m)) .i64 .i64 0 m (Or.inl ⟨rfl, rfl⟩) (Or.inr rfl) (Nat.zero_le _) hm]
  have h0 : (if c = 0 then A else A.map (·.add (0 * k))) = A := by
    split
    · rfl
    · cases A <;> simp [Addr.add]
  rw [h0]; rfl
theorem take_step {es : List Ent} {i : Nat} {e : Ent} (he : es[i]? = some e) : es.take (i + 1) = es.take i ++ [e] := by
  obtain ⟨hi, rfl⟩ := List.getElem?_eq_some_iff.1 he
  exact (List.take_append_getElem hi).symm
theorem drop_step {es : List Ent} {i : Nat} {e : Ent} (he : es[i]? = some e) : es.drop i = e :: es.drop (i + 1) := by
  obtain ⟨hi, rfl⟩ := List.getElem?_eq_some_iff.1 he
  exact List.drop_eq_getElem_cons hi
/-- A log that was just made. -/
theorem Lg.new (w : World) : Lg (w.alloc (.cells #[.slice none 0 0] 54)) w.heap.size [w.heap.size] [] :=
  ⟨⟨none, 0, Blk.new w #[.slice none 0 0] 54, ⟨rfl, .inl ⟨rfl, rfl, rfl⟩⟩, rfl⟩, by simp⟩

set_option maxHeartbeats 4000000 in
set_option maxRecDepth 100000 in
theorem New_c (w : World) (B : Nat) (A : Option Addr) (c n : Nat) (es : List Ent) (R : Rd w B A c 7 n (els es)) :
    Calls Try.prog 13 #[.slice A n c] w fun x w' => ∃ (g : Nat) (F : List Nat), x = .returned (.pointer (some ⟨g, 0, none⟩)) ∧ Lg w' g F (PLog.log es) ∧ (∀ k ∈ F, w.heap.size ≤ k) ∧ Below w.heap.size w w' := by
  have hcap := R.cap
  have hle := R.le
  have hn : n ≤ 9223372036854775807 := by unfold maxLen at hcap; omega
  have HL := Lib.hid R.elen
  have R0 := Lib.hid R.tight
  have H1 := Lib.hid (Lg.new w)
  have b1 := Lib.hid ((Below.refl w.heap.size w).alloc (Nat.le_refl _) (.cells #[.slice none 0 0] 54))
  clear R hcap hle
  go_enter Try.func13, Try.ntmps13
  go_wp2_with fail
  generalize w.alloc (.cells #[.slice none 0 0] 54) = w1 at *
  go_loopw [9] (fun s9 wr => ∃ (i : Nat) (F : List Nat), s9 = .int .i64 i ∧ i ≤ n ∧ Hid (Lg wr w.heap.size F (PLog.log (es.take i))) ∧ Hid (∀ k ∈ F, w.heap.size ≤ k) ∧ Hid (Below w.heap.size w wr)) (fun s9 _ => n - (intOf s9).toNat)
  case atStart => exact ⟨0, [w.heap.size], rfl, by omega, H1, Lib.hid (by simp), b1⟩
  case round =>
    clear H1 b1
    obtain ⟨i, F, rfl, hi, HG, HF, BT⟩ := hrel
    by_cases hin : i < n
    · obtain ⟨b, o, e, rfl, -, he, -, d0, d1, d2, d3, d4, d5, d6⟩ := (R0.out.below BT.out).ent hin
      have HE := Lib.hid he
      have L1 := Lib.hid (HG.out.alloc (.cells #[.int .i64 e.fr, .int .i64 e.boot, .int .i64 e.seq, .int .i64 e.ord, .int .i64 e.lev, .int .i64 e.stamp, .string e.data] 34))
      have b2 := (Below.refl wr.heap.size wr).alloc (Nat.le_refl _) (.cells #[.int .i64 e.fr, .int .i64 e.boot, .int .i64 e.seq, .int .i64 e.ord, .int .i64 e.lev, .int .i64 e.stamp, .string e.data] 34)
      have B2 := Lib.hid (BT.out.trans (b2.mono BT.out.size))
      clear he b2
      go_wp2_with fail
      clear d0 d1 d2 d3 d4 d5 d6
      generalize (wr.alloc (.cells #[.int .i64 e.fr, .int .i64 e.boot, .int .i64 e.seq, .int .i64 e.ord, .int .i64 e.lev, .int .i64 e.stamp, .string e.data] 34)) = w2 at *
      refine (Add_c w2 w.heap.size F _ L1.out e).mono ?_
      rintro x w3 ⟨rfl, ⟨⟨F3, l3, f3⟩, t3⟩⟩
      have L3 := Lib.hid (show Lg w3 w.heap.size F3 (PLog.log (es.take (i + 1))) by rw [take_step HE.out, PLog.log_append]; exact l3)
      have HF3 := Lib.hid (show ∀ k ∈ F3, w.heap.size ≤ k from fun k hk => (f3 k hk).elim (HF.out k) (fun h => Nat.le_trans B2.out.size h))
      have B3 := Lib.hid (B2.out.trans (t3.below HF.out B2.out.size))
      clear l3 f3 t3
      go_wp2_with fail
      go_roundw
      case rel => exact ⟨i + 1, F3, by go_num, by omega, L3, HF3, B3⟩
      case measure => simp [intOf]; omega
    · obtain rfl : i = n := by omega
      have e1 : es.take i = es := List.take_of_length_le (by rw [HL.out]; omega)
      rw [e1] at HG
      go_wp2_with fail
      go_ret
      exact ⟨w.heap.size, F, rfl, HG.out, HF.out, BT.out⟩

set_option maxHeartbeats 4000000 in
set_option maxRecDepth 100000 in
theorem addAll_c (w : World) (g : Nat) (F : List Nat) (L : List Ent) (h : Lg w g F L) (B : Nat) (A : Option Addr) (c n : Nat) (es : List Ent) (R : Rd w B A c 7 n (els es)) (hd : 0 < n * 7 → ∀ k ∈ F, bk A ≠ some k) :
    Calls Try.prog 32 #[.pointer (some ⟨g, 0, none⟩), .slice A n c] w fun x w' => x = .returned (.bool (PLog.okN L es)) ∧ Went w w' g F (PLog.addN L es) := by
  have hcap := R.cap
  have hle := R.le
  have hn : n ≤ 9223372036854775807 := by unfold maxLen at hcap; omega
  have HL := Lib.hid R.elen
  have R0 := Lib.hid R
  have HD := Lib.hid hd
  have H0 := Lib.hid h
  obtain ⟨A0, c0, d, -, -⟩ := h.open
  clear R hcap hle hd h
  go_enter Try.func32, Try.ntmps32
  go_wp2_with fail
  clear d
  go_loopw [15] (fun s15 wr => ∃ (i : Nat) (F' : List Nat), s15 = .int .i64 i ∧ i ≤ n ∧ Hid (Lg wr g F' (L ++ es.take i)) ∧ Hid (∀ k ∈ F', k ∈ F ∨ w.heap.size ≤ k) ∧ Hid (Touch F w wr) ∧ Hid (PLog.okN L es = PLog.okN (L ++ es.take i) (es.drop i))) (fun s15 _ => n - (intOf s15).toNat)
  case atStart => exact ⟨0, F, rfl, by omega, Lib.hid (by simpa using H0.out), Lib.hid (fun k hk => .inl hk), Lib.hid (Touch.refl _ _), Lib.hid (by simp)⟩
  case round =>
    obtain ⟨i, F1, rfl, hi, HG, HF, HT, HQ⟩ := hrel
    by_cases hin : i < n
    · obtain ⟨b, o, e, rfl, -, he, -, d0, d1, d2, d3, d4, d5, d6⟩ := (R0.out.touch HT.out HD.out).ent hin
      have HE := Lib.hid he
      have L1 := Lib.hid (HG.out.alloc (.cells #[.int .i64 e.fr, .int .i64 e.boot, .int .i64 e.seq, .int .i64 e.ord, .int .i64 e.lev, .int .i64 e.stamp, .string e.data] 34))
      have b2 := (Below.refl wr.heap.size wr).alloc (Nat.le_refl _) (.cells #[.int .i64 e.fr, .int .i64 e.boot, .int .i64 e.seq, .int .i64 e.ord, .int .i64 e.lev, .int .i64 e.stamp, .string e.data] 34)
      have T2 := Lib.hid (HT.out.trans (.of_below b2))
      have HQ2 := Lib.hid (show PLog.okN L es = (PLog.can (L ++ es.take i) e && PLog.okN (L ++ es.take (i + 1)) (es.drop (i + 1))) by
        rw [HQ.out, drop_step he, take_step he, ← List.append_assoc]; rfl)
      clear he b2
      go_wp2_with fail
      clear d0 d1 d2 d3 d4 d5 d6
      generalize (wr.alloc (.cells #[.int .i64 e.fr, .int .i64 e.boot, .int .i64 e.seq, .int .i64 e.ord, .int .i64 e.lev, .int .i64 e.stamp, .string e.data] 34)) = w2 at *
      refine (Add_c w2 g F1 _ L1.out e).mono ?_
      cases hc : PLog.can (L ++ es.take i) e
      · have HR := Lib.hid (show PLog.okN L es = false by rw [HQ2.out, hc]; rfl)
        have HA := Lib.hid (show PLog.add (L ++ es.take i) e = L ++ es.take i by unfold PLog.add; rw [hc]; rfl)
        rintro x w3 ⟨rfl, wt⟩
        rw [HA.out] at wt
        obtain ⟨⟨F3, l3, f3⟩, t3⟩ := wt
        have W3 := Lib.hid (show Touch F w w3 ∧ (∀ k ∈ F3, k ∈ F ∨ w.heap.size ≤ k) from by
          have q : Went w2 w3 g F1 (L ++ es.take i) := ⟨⟨F3, l3, f3⟩, t3⟩
          have r : Went w w3 g F (L ++ es.take i) := Went.trans (F' := F1) HF.out T2.out q
          refine ⟨r.touch, fun k hk => ?_⟩
          rcases f3 k hk with q | q
          · exact HF.out k q
          · exact .inr (Nat.le_trans T2.out.size q))
        obtain ⟨A4, c4, k1, k2, k3, k4, k5, k6⟩ := l3.short (m := L.length) (by simp)
        have hrun : ∀ W, (Instr.sliceAt 22 (.slice A4 (L ++ es.take i).length c4) none (some (.int .i64 L.length)) none).run Try.prog W = .ok (.slice A4 L.length c4) W := fun W => run_short 22 34 Try.underlying22 ent_info A4 _ c4 L.length k3
        have e4 : (L ++ es.take i).take L.length = L := List.take_left
        rw [e4] at k5
        have K5 := Lib.hid k5
        have K6 := Lib.hid k6
        clear l3 f3 t3 k3 k4 k5 k6 e4 hc
        go_wp2_with ((with_reducible show wpList _ _ _ ((⟨some 29, Op.slice _ _ _ _ _, _, _, _, _⟩ : Oper) :: _) _ _); (refine wpList_plain rfl fun K hK => ?_; unfold Oper.wp; rw [run_sliceOp (hrun _), Oper.upon_value]; refine hK _ _ ?_))
        go_ret
        refine ⟨by rw [HR.out]; rfl, ?_⟩
        rw [show PLog.addN L es = L by unfold PLog.addN; rw [HR.out]; rfl]
        refine ⟨⟨F3, K5.out, W3.out.2⟩, ⟨K6.out.os.trans W3.out.1.os, K6.out.tape.trans W3.out.1.tape, K6.out.output.trans W3.out.1.output, Nat.le_trans W3.out.1.size K6.out.size, fun k hk hn => ?_⟩⟩
        refine (K6.out.block k (Nat.lt_of_lt_of_le hk W3.out.1.size) (fun hm => ?_)).trans (W3.out.1.block k hk hn)
        rcases W3.out.2 k hm with q | q
        · exact hn q
        · omega
      · have HR := Lib.hid (show PLog.okN L es = PLog.okN (L ++ es.take (i + 1)) (es.drop (i + 1)) by rw [HQ2.out, hc]; rfl)
        have HA := Lib.hid (show PLog.add (L ++ es.take i) e = L ++ es.take (i + 1) by unfold PLog.add; rw [hc, take_step HE.out, ← List.append_assoc]; rfl)
        rintro x w3 ⟨rfl, wt⟩
        rw [HA.out] at wt
        obtain ⟨⟨F3, l3, f3⟩, t3⟩ := wt
        have r : Went w w3 g F (L ++ es.take (i + 1)) := Went.trans (F' := F1) HF.out T2.out ⟨⟨F3, l3, f3⟩, t3⟩
        have L3 := Lib.hid l3
        have HF3 := Lib.hid (show ∀ k ∈ F3, k ∈ F ∨ w.heap.size ≤ k from fun k hk => by
          rcases f3 k hk with q | q
          · exact HF.out k q
          · exact .inr (Nat.le_trans T2.out.size q))
        have T3 := Lib.hid r.touch
        clear l3 f3 t3 r hc
        go_wp2_with fail
        go_roundw
        case rel => exact ⟨i + 1, F3, by go_num, by omega, L3, HF3, T3, HR⟩
        case measure => simp [intOf]; omega
    · obtain rfl : i = n := by omega
      have e1 : es.take i = es := List.take_of_length_le (by rw [HL.out]; omega)
      have e2 : es.drop i = [] := List.drop_of_length_le (by rw [HL.out]; omega)
      have HR := Lib.hid (show PLog.okN L es = true by rw [HQ.out, e2]; rfl)
      rw [e1] at HG
      go_wp2_with fail
      go_ret
      exact ⟨by rw [HR.out]; rfl, by rw [show PLog.addN L es = L ++ es by unfold PLog.addN; rw [HR.out]; rfl]; exact ⟨⟨F1, HG.out, HF.out⟩, HT.out⟩⟩

theorem take_min (es : List Ent) (a : Nat) : es.take (min a es.length) = es.take a := by
  by_cases h : a ≤ es.length
  · rw [Nat.min_eq_left h]
  · rw [Nat.min_eq_right (by omega), List.take_of_length_le (Nat.le_refl _), List.take_of_length_le (by omega)]
theorem drop_min (es : List Ent) (a : Nat) : es.drop (min a es.length) = es.drop a := by
  by_cases h : a ≤ es.length
  · rw [Nat.min_eq_left h]
  · rw [Nat.min_eq_right (by omega), List.drop_of_length_le (Nat.le_refl _), List.drop_of_length_le (by omega)]

set_option maxHeartbeats 4000000 in
set_option maxRecDepth 100000 in
theorem Put_in (w : World) (g : Nat) (F : List Nat) (L : List Ent) (h : Lg w g F L) (k : Nat) (hk : k ≤ L.length) (B : Nat) (A : Option Addr) (c n : Nat) (es : List Ent) (R : Rd w B A c 7 n (els es)) (hd : 0 < n * 7 → ∀ q ∈ F, bk A ≠ some q) :
    Calls Try.prog 18 #[.pointer (some ⟨g, 0, none⟩), .int .i64 k, .slice A n c] w fun x w' => x = .returned (.bool (PLog.okPut L k es)) ∧ Went w w' g F (PLog.put L k es) := by
  have hle := R.le
  have hcap := R.cap
  have h60 := h.le
  have hl := R.elen
  have H0 := Lib.hid h
  obtain ⟨A0, c0, d, RL, -⟩ := h.open
  have hle0 := RL.le
  obtain ⟨m, hm⟩ : ∃ m, min (L.length - k) n = m := ⟨_, rfl⟩
  have hm1 : m ≤ n := by omega
  obtain ⟨A1, c1, hrun1, R1⟩ := cut_any (P := Try.prog) (w := w) 22 34 Try.underlying22 ent_info RL (some (.int .i64 k)) none k L.length k 0 (Or.inr ⟨rfl, rfl⟩) (Or.inl ⟨rfl, rfl⟩) hk (Nat.le_refl _)
  obtain ⟨A2, c2, hrun2, R2⟩ := cut_any (P := Try.prog) (w := w) 22 34 Try.underlying22 ent_info R none (some (.int .i64 m)) 0 m 0 m (Or.inl ⟨rfl, rfl⟩) (Or.inr ⟨rfl, rfl⟩) (Nat.zero_le _) hm1
  have hA3 : ∀ W, (Instr.sliceAt 22 (.slice A n c) (some (.int .i64 m)) none none).run Try.prog W = .ok (.slice (if c = m then A else A.map (·.add (m * 7))) (n - m) (c - m)) W := fun W =>
    run_cut 22 34 Try.underlying22 ent_info A n c (some (.int .i64 m)) none .i64 .i64 m n (Or.inr rfl) (Or.inl ⟨rfl, rfl⟩) hm1 hle
  have R3 := R.cut (l := m) (m := n) hm1 (Nat.le_refl _)
  have hd3 : 0 < (n - m) * 7 → ∀ q ∈ F, bk (if c = m then A else A.map (·.add (m * 7))) ≠ some q := by
    intro hnz q hq
    have := hd (by omega) q hq
    split
    · exact this
    · cases A with
      | none => simp [bk]
      | some ad =>
        show (some (ad.add (m * 7)).block : Option Nat) ≠ some q
        unfold Addr.add
        split <;> exact this
  have e1 : ((els L).drop (k * 7)).take ((L.length - k) * 7) = els (L.drop k) := by
    rw [els_drop, els_take]; congr 1; exact List.take_of_length_le (by simp)
  have e2 : ((els es).drop (0 * 7)).take ((m - 0) * 7) = els (es.take (L.length - k)) := by
    rw [Nat.zero_mul, List.drop_zero, Nat.sub_zero, els_take, ← hm, ← hl, take_min]
  have e3 : ((els es).drop (m * 7)).take ((n - m) * 7) = els (es.drop (L.length - k)) := by
    rw [els_drop, els_take, ← hm, ← hl, drop_min]; congr 1; exact List.take_of_length_le (by simp; omega)
  rw [e1] at R1
  rw [e2, Nat.sub_zero] at R2
  rw [Nat.sub_zero] at hrun2
  rw [e3] at R3
  generalize (if c = m then A else A.map (·.add (m * 7))) = A3 at *
  generalize hc3 : c - m = c3 at *
  have HF := Lib.hid (Front_c w _ _ A2 A1 c2 m c1 (L.length - k) (es.take (L.length - k)) (L.drop k) R2 R1)
  have HP := Lib.hid (show PLog.okPut L k es = (PLog.front (es.take (L.length - k)) (L.drop k) && PLog.okN L (es.drop (L.length - k))) by
    unfold PLog.okPut; rw [PLog.putM_front, List.length_drop])
  have R3' := Lib.hid R3
  have HD3 := Lib.hid hd3
  have HM := Lib.hid hm
  have j1 : ¬ ((k : Int) < 0) := by omega
  have j2 : ¬ ((L.length : Int) < (k : Int)) := by omega
  clear R h RL R1 R2 R3 hd hd3 e1 e2 e3 hc3 hl hm hm1 hle hcap hle0
  go_enter Try.func18, Try.ntmps18
  go_wp2_with (first | ((with_reducible show wpList _ _ _ ((⟨some 29, Op.slice _ _ _ _ _, _, _, _, _⟩ : Oper) :: _) _ _); (refine wpList_plain rfl fun K hK => ?_; unfold Oper.wp; rw [run_sliceOp (hrun1 _), Oper.upon_value]; refine hK _ _ ?_)) | ((with_reducible show wpList _ _ _ ((⟨some 37, Op.slice _ _ _ _ _, _, _, _, _⟩ : Oper) :: _) _ _); (refine wpList_plain rfl fun K hK => ?_; unfold Oper.wp; rw [run_sliceOp (hrun2 _), Oper.upon_value]; refine hK _ _ ?_)) | ((with_reducible show wpList _ _ _ ((⟨some 34, Op.call _, _, _, _, _⟩ : Oper) :: _) _ _); (refine wpList_min rfl _ _ _ rfl (L.length - k) n rfl rfl ?_; rw [HM.out])))
  refine HF.out.mono ?_
  cases hf : PLog.front (es.take (L.length - k)) (L.drop k)
  · have HR := Lib.hid (show PLog.okPut L k es = false by rw [HP.out, hf]; rfl)
    have HS := Lib.hid (show PLog.put L k es = L by unfold PLog.put; rw [HR.out]; rfl)
    clear hf
    rintro x w1 ⟨rfl, b1⟩
    go_wp2_with fail
    go_ret
    exact ⟨by rw [HR.out]; rfl, by rw [HS.out]; exact Went.same H0.out b1⟩
  · have HR := Lib.hid (show PLog.okPut L k es = PLog.okN L (es.drop (L.length - k)) by rw [HP.out, hf]; rfl)
    have HS := Lib.hid (show PLog.put L k es = PLog.addN L (es.drop (L.length - k)) by unfold PLog.put PLog.addN; rw [HR.out])
    clear hf
    rintro x w1 ⟨rfl, b1⟩
    go_wp2_with ((with_reducible show wpList _ _ _ ((⟨some 44, Op.slice _ _ _ _ _, _, _, _, _⟩ : Oper) :: _) _ _); (refine wpList_unguard rfl ?_; refine wpList_plain rfl fun K hK => ?_; unfold Oper.wp; rw [run_sliceOp (hA3 _), Oper.upon_value]; refine hK _ _ ?_))
    refine (addAll_c w1 g F L (H0.out.past b1) _ A3 c3 (n - m) (es.drop (L.length - k)) (R3'.out.past b1) HD3.out).mono ?_
    rintro x w2 ⟨rfl, wt⟩
    go_wp2_with fail
    go_ret
    exact ⟨by rw [HR.out]; rfl, by rw [HS.out]; exact wt.behind b1⟩

set_option maxRecDepth 100000 in
theorem Put_out (w : World) (g : Nat) (F : List Nat) (L : List Ent) (h : Lg w g F L) (k : Int) (hk : k < 0 ∨ (L.length : Int) < k) (A : Option Addr) (c n : Nat) :
    Calls Try.prog 18 #[.pointer (some ⟨g, 0, none⟩), .int .i64 k, .slice A n c] w fun x w' => x = .returned (.bool false) ∧ w = w' := by
  obtain ⟨A0, c0, d, -, -⟩ := h.open
  clear h
  by_cases h1 : k < 0
  · clear hk
    go_enter Try.func18, Try.ntmps18
    go_wp2_with fail
    go_ret
    exact ⟨rfl, rfl⟩
  · have h2 : (L.length : Int) < k := by omega
    clear hk
    go_enter Try.func18, Try.ntmps18
    go_wp2_with fail
    go_ret
    exact ⟨rfl, rfl⟩

set_option maxHeartbeats 4000000 in
set_option maxRecDepth 100000 in
theorem From_in (w : World) (g : Nat) (F : List Nat) (L : List Ent) (h : Lg w g F L) (k : Nat) (hk : k ≤ L.length) :
    Calls Try.prog 25 #[.pointer (some ⟨g, 0, none⟩), .int .i64 k] w fun x w' => ∃ A' c', x = .returned (.slice A' (L.length - k) c') ∧ w'.ownsRow w.heap.size 34 7 (.slice A' (L.length - k) c') (L.length - k) (els (L.drop k)) ∧ Below w.heap.size w w' := by
  have h60 := h.le
  obtain ⟨A0, c0, d, RL, -⟩ := h.open
  obtain ⟨A1, c1, hrun1, R1⟩ := cut_any (P := Try.prog) (w := w) 22 34 Try.underlying22 ent_info RL (some (.int .i64 k)) none k L.length k 0 (Or.inr ⟨rfl, rfl⟩) (Or.inl ⟨rfl, rfl⟩) hk (Nat.le_refl _)
  have e1 : ((els L).drop (k * 7)).take ((L.length - k) * 7) = els (L.drop k) := by
    rw [els_drop, els_take]; congr 1; exact List.take_of_length_le (by simp)
  rw [e1] at R1
  have R1' := Lib.hid R1
  have j1 : ¬ ((k : Int) < 0) := by omega
  have j2 : ¬ ((L.length : Int) < (k : Int)) := by omega
  clear h RL R1 e1
  go_enter Try.func25, Try.ntmps25
  go_wp2_with ((with_reducible show wpList _ _ _ ((⟨some 25, Op.slice _ _ _ _ _, _, _, _, _⟩ : Oper) :: _) _ _); (refine wpList_plain rfl fun K hK => ?_; unfold Oper.wp; rw [run_sliceOp (hrun1 _), Oper.upon_value]; refine hK _ _ ?_))
  refine (cloneE_c w _ A1 c1 (L.length - k) (L.drop k) R1'.out (by omega)).mono ?_
  rintro x w1 ⟨A', c', rfl, hown, b1⟩
  go_wp2_with fail
  go_ret
  exact ⟨A', c', rfl, hown, b1⟩

set_option maxRecDepth 100000 in
theorem From_out (w : World) (g : Nat) (F : List Nat) (L : List Ent) (h : Lg w g F L) (k : Int) (hk : k < 0 ∨ (L.length : Int) < k) :
    Calls Try.prog 25 #[.pointer (some ⟨g, 0, none⟩), .int .i64 k] w fun x w' => x = .returned (.slice none 0 0) ∧ w = w' := by
  obtain ⟨A0, c0, d, -, -⟩ := h.open
  clear h
  by_cases h1 : k < 0
  · clear hk
    go_enter Try.func25, Try.ntmps25
    go_wp2_with fail
    go_ret
    exact ⟨rfl, rfl⟩
  · have h2 : (L.length : Int) < k := by omega
    clear hk
    go_enter Try.func25, Try.ntmps25
    go_wp2_with fail
    go_ret
    exact ⟨rfl, rfl⟩
end Go.Proofs.Ytnhdehbpcgeceaa
