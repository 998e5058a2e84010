/- Contracts of the statements' Told, Firm. -/
import Derived.Test.YtkpgijmpaklfgaaJudB
import Derived.Test.YtkpgijmpaklfgaaEntL
namespace Go.Proofs.Ytkpgijmpaklfgaa
open Go.RowKit PReady PJud

theorem Rd.oneT (w : World) (t : Tl) : Rd (w.alloc (.cells (tcs t).toArray 32)) (w.alloc (.cells (tcs t).toArray 32)).heap.size (some ⟨w.heap.size, 0, none⟩) 1 8 1 (tcs t) :=
  (Rd.new w (tcs t).toArray 32 8 1 rfl (by unfold maxLen; omega)).tight
theorem run_buildTj {w : World} {dst : Option Tmp} {x y : Operand} {ty : TypeId} {pos : String} {after : Array Edge} {guard : Option (Nat × Bool)} {ρ : Operand → Value} {p : Int} {e : Ent}
    (hx : ρ x = .int .i64 p) (hy : ρ y = ev e) : (execOp ρ { dst, op := .build 32 #[(0, x), (1, y)], type := ty, pos, after, guard }).run Try.prog w = .ok (.value (tldv (p, e))) w := by
  unfold ev at hy
  unfold tldv
  go_simp
theorem tls_snoc (l : List Tl) (t : Tl) : tls (l ++ [t]) = tls l ++ tcs t := by
  rw [tls_append]
  show tls l ++ (tcs t ++ []) = _
  rw [List.append_nil]

set_option maxHeartbeats 4000000 in
set_option maxRecDepth 100000 in
theorem lTold_c (w : World) (A : Option Addr) (c n : Nat) (l : List Tl) (h : Rd w w.heap.size A c 8 n (tls l)) (hok : ∀ t ∈ l, EntOk t.2) :
    Calls Try.prog 8 #[.slice A n c] w fun x w' => ∃ (A' : Option Addr) (c' : Nat) (ts : List Tl), x = .returned (.slice A' ts.length c') ∧ ts.length ≤ 15 ∧
      w'.ownsRow w.heap.size 32 8 (.slice A' ts.length c') ts.length (tls ts) ∧ (∀ t ∈ ts, EntSm t.2) ∧ Below w.heap.size w w' := by
  have hcap := h.cap
  have hle := h.le
  have hn : n ≤ 9223372036854775807 := by unfold maxLen at hcap; omega
  have R0 := Lib.hid h
  have HOK := Lib.hid hok
  clear h hok hcap hle
  go_enter Try.func8, Try.ntmps8
  go_wp2_with fail
  go_loopw [3, 4] (fun s3 s4 wr => ∃ (i c' : Nat) (A' : Option Addr) (ts : List Tl), i ≤ n ∧ i ≤ 15 ∧ s4 = .int .i64 i ∧ s3 = .slice A' i c' ∧ Hid (ts.length = i) ∧
      Hid (wr.ownsRow w.heap.size 32 8 (.slice A' i c') i (tls ts)) ∧ Hid (∀ t ∈ ts, EntSm t.2) ∧ Hid (Below w.heap.size w wr))
    (fun _ s4 _ => n - (intOf s4).toNat)
  case atStart => exact ⟨0, 0, none, [], by omega, by omega, rfl, rfl, Lib.hid rfl, Lib.hid (World.ownsRow_nil _ _ _ _), Lib.hid (by simp), Lib.hid (Below.refl _ _)⟩
  case round =>
    obtain ⟨i, c1, A1, ts, hin, him, rfl, rfl, HL, O, HS, BL⟩ := hrel
    have fin : ∃ (A' : Option Addr) (c' : Nat) (ts' : List Tl), Ending.returned (.slice A1 i c1) = .returned (.slice A' ts'.length c') ∧ ts'.length ≤ 15 ∧
      wr.ownsRow w.heap.size 32 8 (.slice A' ts'.length c') ts'.length (tls ts') ∧ (∀ t ∈ ts', EntSm t.2) ∧ Below w.heap.size w wr := by
      refine ⟨A1, c1, ts, by rw [HL.out], by rw [HL.out]; omega, ?_, HS.out, BL.out⟩
      rw [HL.out]; exact O.out
    have FIN := Lib.hid fin
    clear fin
    by_cases h1 : i < n
    · by_cases h2 : i < 15
      · obtain ⟨b, o, t, rfl, hb, he, hmem, hr⟩ := (R0.out.below BL.out).told h1
        have HE := Lib.hid (HOK.out t hmem)
        have HB := Lib.hid hb
        have HR := Lib.hid (show wr.drew.rangeAt b (o + i * 8) (tcs t) from hr)
        clear he hmem FIN hb hr
        go_wp2_with fail
-- REGION curfew/curfewlaw28.Told 5 jtold5 8
        refine Hb.beginB (B := w.heap.size) ?_
        refine Hb.take (v := .slice A1 i c1) 0 15 rfl ?_ (fun _ _ => rfl)
        refine Hb.take (v := .slice (some ⟨b, o, none⟩) n c) 1 16 rfl ?_ (fun _ _ => rfl)
        refine Hb.take (v := .int .i64 (i : Int)) 2 17 rfl ?_ (fun _ _ => rfl)
        refine Hb.take (v := .pointer (some ⟨b, o + i * 8, none⟩)) 3 18 rfl ?_ (fun w' hw' => by go_simp; first | done | rfl | omega | exact wrap_in (by omega) (by omega) | exact Int.tmod_eq_emod_of_nonneg (by omega) | exact Int.tdiv_eq_ediv_of_nonneg (by omega) | (simp; omega))
        refine Hb.take (v := .pointer (some ⟨b, o + i * 8, none⟩)) 4 19 rfl ?_ (fun w' hw' => by go_simp; first | done | rfl | omega | exact wrap_in (by omega) (by omega) | exact Int.tmod_eq_emod_of_nonneg (by omega) | exact Int.tdiv_eq_ediv_of_nonneg (by omega) | (simp; omega))
        refine Hb.take (v := .int .i64 t.1) 5 20 rfl ?_ (fun w' hw' => by exact run_loadInt (range_at (rangeAt_below HR.out hw' HB.out)) rfl)
        refine Hb.take (v := .slice (some ⟨b, o, none⟩) n c) 6 21 rfl ?_ (fun _ _ => rfl)
        refine Hb.take (v := .int .i64 (i : Int)) 7 22 rfl ?_ (fun _ _ => rfl)
        refine Hb.take (v := .pointer (some ⟨b, o + i * 8, none⟩)) 8 23 rfl ?_ (fun w' hw' => by go_simp; first | done | rfl | omega | exact wrap_in (by omega) (by omega) | exact Int.tmod_eq_emod_of_nonneg (by omega) | exact Int.tdiv_eq_ediv_of_nonneg (by omega) | (simp; omega))
        refine Hb.take (v := .pointer (some ⟨b, o + i * 8 + 1, none⟩)) 9 24 rfl ?_ (fun w' hw' => by go_simp; first | done | rfl | omega | exact wrap_in (by omega) (by omega) | exact Int.tmod_eq_emod_of_nonneg (by omega) | exact Int.tdiv_eq_ediv_of_nonneg (by omega) | (simp; omega))
        refine Hb.take (v := ev t.2) 10 25 rfl ?_ (fun w' hw' => by exact run_loadE (range_ent (rangeAt_below HR.out hw' HB.out)) rfl)
        refine Hb.call (f := 18) (args := #[ev t.2]) 11 26 rfl ?_ (run_callf Try.func18 (by kernel_rfl) (by kernel_rfl) (by simp only [List.map_toArray, List.map_cons, List.map_nil]; rfl))
        refine (lCut_c wr.drew t.2).mono ?_
        rintro x w1 ⟨d, rfl, hd1, hd2, b1⟩
        have B1 := Lib.hid (BL.out.drew.trans (b1.mono BL.out.size))
        have O1 := Lib.hid (own_below O.out.drew b1)
        have HS3 := Lib.hid (show ∀ y ∈ ts ++ [(t.1, ⟨t.2.fr, t.2.boot, t.2.seq, t.2.ord, t.2.lev, t.2.stamp, d⟩)], EntSm y.2 from fun y hy => by
          rcases List.mem_append.1 hy with hy | hy
          · exact HS.out y hy
          · rw [List.mem_singleton.1 hy]; exact ⟨⟨HE.out.fit.f0, HE.out.fit.f1, HE.out.fit.f2, HE.out.fit.f3, HE.out.fit.f4, HE.out.fit.f5⟩, hd1⟩)
        have s1 := Lib.hid (Nat.le_trans BL.out.size b1.size)
        refine Hb.back (b1.mono BL.out.size) (Nat.le_refl _) ?_
        refine Hb.take (v := tldv (t.1, ⟨t.2.fr, t.2.boot, t.2.seq, t.2.ord, t.2.lev, t.2.stamp, d⟩)) 12 27 rfl ?_ (fun w' hw' => by exact run_buildTj rfl rfl)
        refine Hb.only 13 (some 28) rfl ?_
        refine wpList_buildT rfl (.tmp 27) rfl (t.1, ⟨t.2.fr, t.2.boot, t.2.seq, t.2.ord, t.2.lev, t.2.stamp, d⟩) rfl ?_
        have bel2 := (Below.refl w1.heap.size w1).alloc (Nat.le_refl _) (.cells (tcs (t.1, ⟨t.2.fr, t.2.boot, t.2.seq, t.2.ord, t.2.lev, t.2.stamp, d⟩)).toArray 32)
        have N2 := Lib.hid (Rd.oneT w1 (t.1, ⟨t.2.fr, t.2.boot, t.2.seq, t.2.ord, t.2.lev, t.2.stamp, d⟩))
        have O2 := Lib.hid (own_below O1.out bel2)
        have B2 := Lib.hid (B1.out.trans (bel2.mono B1.out.size))
        refine Hb.next (bel2.mono s1.out) (Nat.le_refl _) ?_ (by simp only [Act.put, List.setIfInBounds_toArray, List.set_cons_succ, List.set_cons_zero]; rfl)
        generalize w1.alloc (.cells (tcs (t.1, ⟨t.2.fr, t.2.boot, t.2.seq, t.2.ord, t.2.lev, t.2.stamp, d⟩)).toArray 32) = w2 at *
        refine Hb.only 14 (some 29) rfl ?_
        refine wpList_app rfl (.tmp 15) (.tmp 28) 22 rfl w.heap.size 32 _ 8 72 Try.underlying22 told_info rfl (by omega) _ i (tls ts) rfl O2.out _ _ 1 1 (tcs (t.1, ⟨t.2.fr, t.2.boot, t.2.seq, t.2.ord, t.2.lev, t.2.stamp, d⟩)) rfl N2.out (tcs_one _) ?d1 ?d2 B2.out.size ?_
        case d1 => unfold maxLen; omega
        case d2 => omega
        intro A3 c3 w3 o3 g3 b3
        have O3 := Lib.hid (show w3.ownsRow w.heap.size 32 8 (.slice A3 (i + 1) c3) (i + 1) (tls (ts ++ [(t.1, ⟨t.2.fr, t.2.boot, t.2.seq, t.2.ord, t.2.lev, t.2.stamp, d⟩)])) by rw [tls_snoc]; exact o3)
        have B3 := Lib.hid (B2.out.trans b3)
        clear o3 g3
        refine Hb.next b3 (Nat.le_refl _) ?_
        refine Hb.take (v := .slice A3 (i + 1) c3) 15 3 rfl ?_ (fun _ _ => rfl)
        refine Hb.done ?_
-- END
        go_wp2_with fail
        go_roundw
        case rel => exact ⟨i + 1, c3, A3, ts ++ [(t.1, ⟨t.2.fr, t.2.boot, t.2.seq, t.2.ord, t.2.lev, t.2.stamp, d⟩)], by omega, by omega, by go_num, rfl, Lib.hid (by simp [HL.out]), O3, HS3, B3⟩
        case measure => simp [intOf]; omega
      · go_wp2_with fail
        go_ret
        exact FIN.out
    · go_wp2_with fail
      go_ret
      exact FIN.out

set_option maxHeartbeats 4000000 in
set_option maxRecDepth 100000 in
theorem lFirm_c (w : World) (B : Nat) (A : Option Addr) (c n : Nat) (l : List Tl) (h : Rd w B A c 8 n (tls l)) (hn : n ≤ 1000000) :
    Calls Try.prog 10 #[.slice A n c] w fun x w' => ∃ (A' : Option Addr) (c' : Nat), x = .returned (.slice A' (firm l).length c') ∧
      w'.ownsRow w.heap.size 30 7 (.slice A' (firm l).length c') (firm l).length (els (firm l)) ∧ Below w.heap.size w w' := by
  have HL := Lib.hid h.tlen
  have R0 := Lib.hid h.tight
  clear h
  go_enter Try.func10, Try.ntmps10
  go_wp2_with fail
  go_loopw [3, 4] (fun s3 s4 wr => ∃ (i k c' : Nat) (A' : Option Addr), i ≤ n ∧ s4 = .int .i64 i ∧ s3 = .slice A' k c' ∧ Hid (k = (firm (l.take i)).length) ∧ k ≤ i ∧
      Hid (wr.ownsRow w.heap.size 30 7 (.slice A' k c') k (els (firm (l.take i)))) ∧ Hid (Below w.heap.size w wr))
    (fun _ s4 _ => n - (intOf s4).toNat)
  case atStart => exact ⟨0, 0, 0, none, by omega, rfl, rfl, Lib.hid rfl, by omega, Lib.hid (World.ownsRow_nil _ _ _ _), Lib.hid (Below.refl _ _)⟩
  case round =>
    obtain ⟨i, k, c1, A1, hi, rfl, rfl, HK, hki, O, BL⟩ := hrel
    by_cases hin : i < n
    · obtain ⟨b, o, ⟨p, ⟨fr, boot, seq, ord, lev, stamp, data⟩⟩, rfl, -, he, -, d0, d1, d2, d3, d4, d5, d6, d7⟩ := (R0.out.below BL.out).told8 hin
      have HT := Lib.hid (take_stepT he)
      clear he
      have yes : isF ⟨fr, boot, seq, ord, lev, stamp, data⟩ = true → Hid (firm (l.take (i + 1)) = firm (l.take i) ++ [⟨fr, boot, seq, ord, lev, stamp, data⟩]) := fun hq => Lib.hid (by rw [HT.out, firm_snoc, hq]; simp)
      have no : isF ⟨fr, boot, seq, ord, lev, stamp, data⟩ = false → Hid (firm (l.take (i + 1)) = firm (l.take i)) := fun hq => Lib.hid (by rw [HT.out, firm_snoc, hq]; simp)
      by_cases h1 : ord = 1
      · subst h1
        by_cases h2 : lev = 1
        · subst h2
          have HE := yes (by simp [isF])
          clear yes no
          go_wp2_with (at_builtin; go_must (refine wpList_pushes rfl (.tmp 36) (.tmp 42) _ rfl w.heap.size 30 (ev zeroE) 7 64 1 Try.underlying23 ent_info rfl (by omega) rfl (by unfold maxLen; omega) A1 c1 k (els (firm (l.take i))) rfl O.out rfl ?h1 ?h2 ?h3 ?h4 ?_))
          case h1 => first | exact ⟨rfl, rfl, rfl, rfl, rfl, rfl, rfl⟩ | (simp; done) | trivial
          case h2 => unfold maxLen; omega
          case h3 => omega
          case h4 => exact BL.out.size
          intro A2 c2 w2 hown2 hg2 hb2
          have B2 := Lib.hid (BL.out.trans hb2)
          have O2 := Lib.hid (show w2.ownsRow w.heap.size 30 7 (.slice A2 (k + 1) c2) (k + 1) (els (firm (l.take (i + 1)))) by rw [HE.out, els_append]; exact hown2)
          clear hown2 hg2 hb2 BL O d0 d1 d2 d3 d4 d5 d6 d7
          go_wp2_with fail
          go_roundw
          case rel => exact ⟨i + 1, k + 1, c2, A2, by omega, by go_num, rfl, Lib.hid (by rw [HE.out, List.length_append, ← HK.out]; rfl), by omega, O2, B2⟩
          case measure => simp [intOf]; omega
        · have e2 : (lev == 1) = false := by simpa using h2
          by_cases h3 : lev = 2
          · subst h3
            have HE := yes (by simp [isF])
            clear yes no
            go_wp2_with (at_builtin; go_must (refine wpList_pushes rfl (.tmp 36) (.tmp 42) _ rfl w.heap.size 30 (ev zeroE) 7 64 1 Try.underlying23 ent_info rfl (by omega) rfl (by unfold maxLen; omega) A1 c1 k (els (firm (l.take i))) rfl O.out rfl ?h1 ?h2 ?h3 ?h4 ?_))
            case h1 => first | exact ⟨rfl, rfl, rfl, rfl, rfl, rfl, rfl⟩ | (simp; done) | trivial
            case h2 => unfold maxLen; omega
            case h3 => omega
            case h4 => exact BL.out.size
            intro A2 c2 w2 hown2 hg2 hb2
            have B2 := Lib.hid (BL.out.trans hb2)
            have O2 := Lib.hid (show w2.ownsRow w.heap.size 30 7 (.slice A2 (k + 1) c2) (k + 1) (els (firm (l.take (i + 1)))) by rw [HE.out, els_append]; exact hown2)
            clear hown2 hg2 hb2 BL O d0 d1 d2 d3 d4 d5 d6 d7
            go_wp2_with fail
            go_roundw
            case rel => exact ⟨i + 1, k + 1, c2, A2, by omega, by go_num, rfl, Lib.hid (by rw [HE.out, List.length_append, ← HK.out]; rfl), by omega, O2, B2⟩
            case measure => simp [intOf]; omega
          · have e3 : (lev == 2) = false := by simpa using h3
            have HE := no (by simp [isF, h2, h3])
            clear yes no
            go_wp2_with fail
            go_roundw
            case rel => exact ⟨i + 1, k, c1, A1, by omega, by go_num, rfl, Lib.hid (by rw [HE.out]; exact HK.out), by omega, by rw [HE.out]; exact O, BL⟩
            case measure => simp [intOf]; omega
      · have e1 : (ord == 1) = false := by simpa using h1
        have HE := no (by simp [isF, h1])
        clear yes no
        go_wp2_with fail
        go_roundw
        case rel => exact ⟨i + 1, k, c1, A1, by omega, by go_num, rfl, Lib.hid (by rw [HE.out]; exact HK.out), by omega, by rw [HE.out]; exact O, BL⟩
        case measure => simp [intOf]; omega
    · obtain rfl : i = n := by omega
      have HE := Lib.hid (show l.take i = l by rw [List.take_of_length_le (by rw [HL.out]; omega)])
      go_wp2_with fail
      go_ret
      have h1 := HK.out
      have h2 := O.out
      rw [HE.out] at h1 h2
      rw [← h1]
      exact ⟨A1, c1, rfl, h2, BL.out⟩
end Go.Proofs.Ytkpgijmpaklfgaa
