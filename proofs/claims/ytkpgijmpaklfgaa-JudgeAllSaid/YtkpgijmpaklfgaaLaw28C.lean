/- The walk of JudgeAll. -/
import Derived.Test.YtkpgijmpaklfgaaJudK
import Derived.Test.YtkpgijmpaklfgaaJudO
import Derived.Test.YtkpgijmpaklfgaaEntR
import Derived.Deep.CutRange
namespace Go.Proofs.Ytkpgijmpaklfgaa
open Go.RowKit PReady PJud

theorem tolds_okA {l : List Tl} (h : ∀ t ∈ l, EntSm t.2) : ∀ t ∈ l, EntOk t.2 := fun e he => ⟨(h e he).fit, by have := (h e he).sz; unfold maxLen; omega⟩
theorem ents_okA {l : List Ent} (h : ∀ e ∈ l, EntSm e) : ∀ e ∈ l, EntOk e := fun e he => ⟨(h e he).fit, by have := (h e he).sz; unfold maxLen; omega⟩
theorem eqL_refl (l : List Ent) : PEnt.eqL l l = true := (PEnt.eqL_iff l l).2 rfl
theorem range_ord {w : World} {b o : Nat} {t : Tl} (h : w.rangeAt b o (tcs t)) : w.cell? ⟨b, o + 4, none⟩ = some (.int .i64 t.2.ord) := h 4 _ rfl
theorem range_lev {w : World} {b o : Nat} {t : Tl} (h : w.rangeAt b o (tcs t)) : w.cell? ⟨b, o + 5, none⟩ = some (.int .i64 t.2.lev) := h 5 _ rfl
theorem range_data {w : World} {b o : Nat} {t : Tl} (h : w.rangeAt b o (tcs t)) : w.cell? ⟨b, o + 7, none⟩ = some (.string t.2.data) := h 7 _ rfl
theorem run_loadStr {w : World} {dst : Option Tmp} {x : Operand} {ty : TypeId} {pos : String} {after : Array Edge} {guard : Option (Nat × Bool)} {ρ : Operand → Value} {p : Addr} {s : ByteArray}
    (h : w.cell? p = some (.string s)) (hx : ρ x = .pointer (some p)) : (execOp ρ { dst, op := .load 9 x, type := ty, pos, after, guard }).run Try.prog w = .ok (.value (.string s)) w := by
  go_simp
theorem map_at {l : List Tl} {i : Nat} {t : Tl} (h : l[i]? = some t) : (l.map (·.2))[i]? = some t.2 := by rw [List.getElem?_map, h]; rfl
theorem dec_of_beq {a b : Int} (h : (a == b) = true) : decide (a = b) = true := h
theorem dec_of_bne {a b : Int} (h : (a == b) = false) : decide (a = b) = false := h
/-- The rows of the statement's own: two lists that were told, what was cast, what is firm. -/
structure JA (W : World) (A3 A4 A5 A6 A7 : Option Addr) (c3 c4 c5 c6 c7 p q r : Nat) (l m : List Tl) (cs : List Ent) : Prop where
  a : Rd W W.heap.size A3 c3 8 p (tls l)
  b : Rd W W.heap.size A4 c4 8 q (tls m)
  c : Rd W W.heap.size A5 c5 7 r (els cs)
  x : Rd W W.heap.size A6 c6 7 (firm l).length (els (firm l))
  y : Rd W W.heap.size A7 c7 7 (firm m).length (els (firm m))
section
variable {W W' : World} {A3 A4 A5 A6 A7 : Option Addr} {c3 c4 c5 c6 c7 p q r : Nat} {l m : List Tl} {cs : List Ent}
theorem JA.past (h : JA W A3 A4 A5 A6 A7 c3 c4 c5 c6 c7 p q r l m cs) (hb : Below W.heap.size W W') : JA W' A3 A4 A5 A6 A7 c3 c4 c5 c6 c7 p q r l m cs :=
  ⟨(h.a.past hb).tight, (h.b.past hb).tight, (h.c.past hb).tight, (h.x.past hb).tight, (h.y.past hb).tight⟩
theorem JA.drew (h : JA W A3 A4 A5 A6 A7 c3 c4 c5 c6 c7 p q r l m cs) : JA W.drew A3 A4 A5 A6 A7 c3 c4 c5 c6 c7 p q r l m cs := ⟨h.a.drew, h.b.drew, h.c.drew, h.x.drew, h.y.drew⟩
end
theorem any_step {cs : List Ent} {k : Nat} {c e : Ent} (hc : cs[k]? = some c) : (cs.take (k + 1)).any (fun x => mt x e) = ((cs.take k).any (fun x => mt x e) || mt c e) := by
  rw [take_step hc, List.any_append]
  simp
theorem all_stepJ {l : List Tl} {i : Nat} {t : Tl} (p : Ent → Bool) (he : l[i]? = some t) : ((l.take (i + 1)).map (·.2)).all p = (((l.take i).map (·.2)).all p && p t.2) := by
  obtain ⟨hi, rfl⟩ := List.getElem?_eq_some_iff.1 he
  rw [← List.take_append_getElem hi, List.map_append, List.all_append]
  simp

set_option maxHeartbeats 16000000 in
set_option maxRecDepth 100000 in
theorem JudgeAll_w (w : World) (A : Option Addr) (c n : Nat) (z : List Tl) (A2 : Option Addr) (c2 n2 : Nat) (z2 : List Tl) (A0 : Option Addr) (c0 n0 : Nat) (z0 : List Ent) (R : Rd w w.heap.size A c 8 n (tls z)) (ok : ∀ t ∈ z, EntOk t.2)
    (R2 : Rd w w.heap.size A2 c2 8 n2 (tls z2)) (ok2 : ∀ t ∈ z2, EntOk t.2) (R0 : Rd w w.heap.size A0 c0 7 n0 (els z0)) (ok0 : ∀ e ∈ z0, EntOk e) :
    Calls Try.prog 3 #[.slice A n c, .slice A2 n2 c2, .slice A0 n0 c0] w fun e w' => e = .returned (.bool true) ∧ Below w.heap.size w w' := by
  have P1 := Lib.hid R
  have P2 := Lib.hid R2
  have P0 := Lib.hid R0
  have O1 := Lib.hid ok
  have O2 := Lib.hid ok2
  have O0 := Lib.hid ok0
  clear R R2 R0 ok ok2 ok0
  go_enter Try.func3, Try.ntmps3
  go_wp2_with fail
  refine (begunJ_c w).mono ?_
  rintro e w1 ⟨rfl, b1⟩
  have B1 := Lib.hid b1
  clear b1
  go_wp2_with fail
  refine (lTold_c w1 A c n z (P1.out.past B1.out).tight O1.out).mono ?_
  rintro e w2 ⟨A3, c3, l, rfl, hp15, o3, hok3, b2⟩
  have N3 := Lib.hid (Rd.of_own o3)
  have B2 := Lib.hid (B1.out.trans (b2.mono B1.out.size))
  have OKL := Lib.hid (tolds_okA hok3)
  clear o3 b2 B1 P1 O1 hok3
  go_wp2_with fail
  refine (lTold_c w2 A2 c2 n2 z2 (P2.out.past B2.out).tight O2.out).mono ?_
  rintro e w3 ⟨A4, c4, m, rfl, hq15, o4, -, b3⟩
  have N4 := Lib.hid (Rd.of_own o4)
  have N3 := Lib.hid (N3.out.past b3).tight
  have B3 := Lib.hid (B2.out.trans (b3.mono B2.out.size))
  clear o4 b3 B2 P2 O2
  go_wp2_with fail
  refine (lEntries_c w3 A0 c0 n0 z0 15 (P0.out.past B3.out).tight O0.out (by omega) (by omega)).mono ?_
  rintro e w4 ⟨A5, c5, cs, rfl, hr, o5, hok5, b4⟩
  have N5 := Lib.hid (Rd.of_own o5)
  have N4 := Lib.hid (N4.out.past b4).tight
  have N3 := Lib.hid (N3.out.past b4).tight
  have B4 := Lib.hid (B3.out.trans (b4.mono B3.out.size))
  have OKC := Lib.hid (ents_okA hok5)
  have hr15 : cs.length ≤ 15 := by rw [hr]; exact Nat.le_trans (Nat.min_le_right _ _) (by decide)
  clear o5 b4 B3 P0 O0 hok5 hr
  obtain ⟨p, hp⟩ : ∃ p, l.length = p := ⟨_, rfl⟩
  obtain ⟨q, hq⟩ : ∃ q, m.length = q := ⟨_, rfl⟩
  obtain ⟨r, hr⟩ : ∃ r, cs.length = r := ⟨_, rfl⟩
  have LP := Lib.hid hp
  have LQ := Lib.hid hq
  have LR := Lib.hid hr
  rw [hp] at N3 hp15 ⊢
  rw [hq] at N4 hq15 ⊢
  rw [hr] at N5 hr15 ⊢
  clear hp hq hr
  go_wp2_with fail
  refine (lFirm_c w4 _ A3 c3 p l N3.out (by omega)).mono ?_
  rintro e w5 ⟨A6, c6, rfl, o6, b5⟩
  have N6 := Lib.hid (Rd.of_own o6)
  have N5 := Lib.hid (N5.out.past b5).tight
  have N4 := Lib.hid (N4.out.past b5).tight
  have N3 := Lib.hid (N3.out.past b5).tight
  have B5 := Lib.hid (B4.out.trans (b5.mono B4.out.size))
  clear o6 b5 B4
  go_wp2_with fail
  refine (lFirm_c w5 _ A4 c4 q m N4.out (by omega)).mono ?_
  rintro e w6 ⟨A7, c7, rfl, o7, b6⟩
  have J6 := Lib.hid (JA.mk (N3.out.past b6).tight (N4.out.past b6).tight (N5.out.past b6).tight (N6.out.past b6).tight (Rd.of_own o7))
  have B6 := Lib.hid (B5.out.trans (b6.mono B5.out.size))
  clear o7 b6 B5 N3 N4 N5 N6
  obtain ⟨K, hK⟩ : ∃ K, min (firm l).length (firm m).length = K := ⟨_, rfl⟩
  have HKI := Lib.hid (show min ((firm l).length : Int) ((firm m).length : Int) = (K : Int) by omega)
  have HK := Lib.hid hK
  clear hK
  go_upto_region 8 with fail
  rw [HKI.out]
  go_wp2_with fail
  go_loopw [11, 12, 13] (fun s11 s12 s13 wr => ∃ (i : Nat) (u v : Bool), i ≤ p ∧ s13 = .int .i64 i ∧ s11 = .bool u ∧ s12 = .bool v ∧ Hid (ap (l.map (·.2)) i = u) ∧ Hid (((l.take i).map (·.2)).all (fun e => cs.any fun x => mt x e) = v) ∧
      Hid (JA wr A3 A4 A5 A6 A7 c3 c4 c5 c6 c7 p q r l m cs) ∧ Hid (Below w.heap.size w wr))
    (fun _ _ s13 _ => p - (intOf s13).toNat)
  case atStart => exact ⟨0, true, true, by omega, rfl, rfl, rfl, Lib.hid rfl, Lib.hid rfl, J6, B6⟩
  case round =>
    clear J6 B6
    obtain ⟨i, u, v, hi, rfl, rfl, rfl, HU, HV, J, BL⟩ := hrel
    by_cases hip : i < p
    · go_wp2_with fail
      obtain ⟨b, o, t, eA, hb0, ht0, hmem, hr0⟩ := J.out.a.told hip
      cases eA
      have HT := Lib.hid ht0
      have HT2 := Lib.hid hmem
      clear hb0 ht0 hmem hr0
      generalize hwr : wr = w7 at *
      clear hwr
      go_loopw [11, 14] (fun s11 s14 wq => ∃ (k : Nat) (u' : Bool), k ≤ i ∧ s14 = .int .i64 k ∧ s11 = .bool u' ∧ Hid ((ap (l.map (·.2)) i && apk (l.map (·.2)) i k) = u') ∧
          Hid (JA wq (some ⟨b, o, none⟩) A4 A5 A6 A7 c3 c4 c5 c6 c7 p q r l m cs) ∧ Hid (Below w.heap.size w wq))
        (fun _ s14 _ => i - (intOf s14).toNat)
      case atStart => exact ⟨0, u, by omega, rfl, rfl, Lib.hid (by rw [HU.out]; simp [apk]), J, BL⟩
      case round =>
        clear J BL
        obtain ⟨k, u', hk, rfl, rfl, HU2, J, BL⟩ := hrel
        by_cases hki : k < i
        · obtain ⟨b', o', s, eA, hb', hs, -, hr2⟩ := J.out.a.told (i := k) (by omega)
          cases eA
          obtain ⟨b', o', t', eA, -, ht', -, hr1⟩ := J.out.a.told (i := i) (by omega)
          cases eA
          obtain rfl : t = t' := Option.some.inj (HT.out.symm.trans ht')
          have HB := Lib.hid (show b < wr.drew.heap.size from hb')
          have HR := Lib.hid (show wr.drew.rangeAt b (o + i * 8) (tcs t) from hr1)
          have HR2 := Lib.hid (show wr.drew.rangeAt b (o + k * 8) (tcs s) from hr2)
          have HN := Lib.hid (apk_succ (map_at HT.out) (map_at hs))
          clear hb' hs hr2 hr1 ht'
          cases u'
          · go_wp2_with fail
-- REGION curfew/curfewlaw28.JudgeAll 14 jall14n 12
            refine Hb.begin ?_
            refine Hb.take (v := .bool false) 0 47 rfl ?_ (fun _ _ => rfl)
            refine Hb.take (v := .bool false) 1 48 rfl ?_ (fun _ _ => rfl)
            refine Hb.pass 2 49 rfl ?_
            refine Hb.pass 3 50 rfl ?_
            refine Hb.pass 4 51 rfl ?_
            refine Hb.pass 5 52 rfl ?_
            refine Hb.pass 6 53 rfl ?_
            refine Hb.pass 7 54 rfl ?_
            refine Hb.pass 8 55 rfl ?_
            refine Hb.pass 9 56 rfl ?_
            refine Hb.pass 10 57 rfl ?_
            refine Hb.pass 11 58 rfl ?_
            refine Hb.pass 12 59 rfl ?_
            refine Hb.pass 13 60 rfl ?_
            refine Hb.take (v := Value.bool false) 14 61 rfl ?_ (fun _ _ => rfl)
            refine Hb.take (v := Value.bool false) 15 11 rfl ?_ (fun _ _ => rfl)
            refine Hb.done ?_
-- END
            go_wp2_with fail
            go_roundw
            case rel => exact ⟨k + 1, false, by omega, by go_num, rfl, Lib.hid (by rw [HN.out, ← Bool.and_assoc, HU2.out]; rfl), Lib.hid J.out.drew, Lib.hid BL.out.drew⟩
            case measure => simp [intOf]; omega
          · cases hq : PEnt.same t.2 s.2
            · have HQ := Lib.hid hq
              clear hq
              go_wp2_with fail
-- REGION curfew/curfewlaw28.JudgeAll 14 jall14b 14
              refine Hb.begin ?_
              refine Hb.take (v := .bool true) 0 47 rfl ?_ (fun _ _ => rfl)
              refine Hb.take (v := .bool true) 1 48 rfl ?_ (fun _ _ => rfl)
              refine Hb.take (v := .slice (some ⟨b, o, none⟩) p c3) 2 49 rfl ?_ (fun _ _ => rfl)
              refine Hb.take (v := .int .i64 (i : Int)) 3 50 rfl ?_ (fun _ _ => rfl)
              refine Hb.take (v := .pointer (some ⟨b, o + i * 8, none⟩)) 4 51 rfl ?_ (fun w' hw' => by go_simp; first | done | rfl | omega | exact wrap_in (by omega) (by omega) | exact Int.tmod_eq_emod_of_nonneg (by omega) | exact Int.tdiv_eq_ediv_of_nonneg (by omega) | (simp; omega))
              refine Hb.take (v := .pointer (some ⟨b, o + i * 8 + 1, none⟩)) 5 52 rfl ?_ (fun w' hw' => by go_simp; first | done | rfl | omega | exact wrap_in (by omega) (by omega) | exact Int.tmod_eq_emod_of_nonneg (by omega) | exact Int.tdiv_eq_ediv_of_nonneg (by omega) | (simp; omega))
              refine Hb.take (v := ev t.2) 6 53 rfl ?_ (fun w' hw' => by exact run_loadE (range_ent (rangeAt_below HR.out hw' HB.out)) rfl)
              refine Hb.take (v := .slice (some ⟨b, o, none⟩) p c3) 7 54 rfl ?_ (fun _ _ => rfl)
              refine Hb.take (v := .int .i64 (k : Int)) 8 55 rfl ?_ (fun _ _ => rfl)
              refine Hb.take (v := .pointer (some ⟨b, o + k * 8, none⟩)) 9 56 rfl ?_ (fun w' hw' => by go_simp; first | done | rfl | omega | exact wrap_in (by omega) (by omega) | exact Int.tmod_eq_emod_of_nonneg (by omega) | exact Int.tdiv_eq_ediv_of_nonneg (by omega) | (simp; omega))
              refine Hb.take (v := .pointer (some ⟨b, o + k * 8 + 1, none⟩)) 10 57 rfl ?_ (fun w' hw' => by go_simp; first | done | rfl | omega | exact wrap_in (by omega) (by omega) | exact Int.tmod_eq_emod_of_nonneg (by omega) | exact Int.tdiv_eq_ediv_of_nonneg (by omega) | (simp; omega))
              refine Hb.take (v := ev s.2) 11 58 rfl ?_ (fun w' hw' => by exact run_loadE (range_ent (rangeAt_below HR2.out hw' HB.out)) rfl)
              refine Hb.call (f := 11) (args := #[ev t.2, ev s.2]) 12 59 rfl ?_ (run_callf Try.func11 (by kernel_rfl) (by kernel_rfl) (by simp only [List.map_toArray, List.map_cons, List.map_nil]; rfl))
              refine (rSame_c wr.drew t.2 s.2).mono ?_
              rw [HQ.out]
              rintro e w9 ⟨rfl, b9⟩
              refine Hb.back b9 b9.size ?_
              refine Hb.take (v := .bool true) 13 60 rfl ?_ (fun w' hw' => by go_simp; first | done | rfl | omega | exact wrap_in (by omega) (by omega) | exact Int.tmod_eq_emod_of_nonneg (by omega) | exact Int.tdiv_eq_ediv_of_nonneg (by omega) | (simp; omega))
              refine Hb.take (v := .bool true) 14 61 rfl ?_ (fun _ _ => rfl)
              refine Hb.take (v := .bool true) 15 11 rfl ?_ (fun _ _ => rfl)
              refine Hb.done ?_
-- END
              go_wp2_with fail
              go_roundw
              case rel => exact ⟨k + 1, true, by omega, by go_num, rfl, Lib.hid (by rw [HN.out, ← Bool.and_assoc, HU2.out, HQ.out]; rfl), Lib.hid (J.out.drew.past b9), Lib.hid (BL.out.drew.trans (b9.mono BL.out.size))⟩
              case measure => simp [intOf]; omega
            · have HQ := Lib.hid hq
              clear hq
              go_wp2_with fail
-- REGION curfew/curfewlaw28.JudgeAll 14 jall14a 14
              refine Hb.begin ?_
              refine Hb.take (v := .bool true) 0 47 rfl ?_ (fun _ _ => rfl)
              refine Hb.take (v := .bool true) 1 48 rfl ?_ (fun _ _ => rfl)
              refine Hb.take (v := .slice (some ⟨b, o, none⟩) p c3) 2 49 rfl ?_ (fun _ _ => rfl)
              refine Hb.take (v := .int .i64 (i : Int)) 3 50 rfl ?_ (fun _ _ => rfl)
              refine Hb.take (v := .pointer (some ⟨b, o + i * 8, none⟩)) 4 51 rfl ?_ (fun w' hw' => by go_simp; first | done | rfl | omega | exact wrap_in (by omega) (by omega) | exact Int.tmod_eq_emod_of_nonneg (by omega) | exact Int.tdiv_eq_ediv_of_nonneg (by omega) | (simp; omega))
              refine Hb.take (v := .pointer (some ⟨b, o + i * 8 + 1, none⟩)) 5 52 rfl ?_ (fun w' hw' => by go_simp; first | done | rfl | omega | exact wrap_in (by omega) (by omega) | exact Int.tmod_eq_emod_of_nonneg (by omega) | exact Int.tdiv_eq_ediv_of_nonneg (by omega) | (simp; omega))
              refine Hb.take (v := ev t.2) 6 53 rfl ?_ (fun w' hw' => by exact run_loadE (range_ent (rangeAt_below HR.out hw' HB.out)) rfl)
              refine Hb.take (v := .slice (some ⟨b, o, none⟩) p c3) 7 54 rfl ?_ (fun _ _ => rfl)
              refine Hb.take (v := .int .i64 (k : Int)) 8 55 rfl ?_ (fun _ _ => rfl)
              refine Hb.take (v := .pointer (some ⟨b, o + k * 8, none⟩)) 9 56 rfl ?_ (fun w' hw' => by go_simp; first | done | rfl | omega | exact wrap_in (by omega) (by omega) | exact Int.tmod_eq_emod_of_nonneg (by omega) | exact Int.tdiv_eq_ediv_of_nonneg (by omega) | (simp; omega))
              refine Hb.take (v := .pointer (some ⟨b, o + k * 8 + 1, none⟩)) 10 57 rfl ?_ (fun w' hw' => by go_simp; first | done | rfl | omega | exact wrap_in (by omega) (by omega) | exact Int.tmod_eq_emod_of_nonneg (by omega) | exact Int.tdiv_eq_ediv_of_nonneg (by omega) | (simp; omega))
              refine Hb.take (v := ev s.2) 11 58 rfl ?_ (fun w' hw' => by exact run_loadE (range_ent (rangeAt_below HR2.out hw' HB.out)) rfl)
              refine Hb.call (f := 11) (args := #[ev t.2, ev s.2]) 12 59 rfl ?_ (run_callf Try.func11 (by kernel_rfl) (by kernel_rfl) (by simp only [List.map_toArray, List.map_cons, List.map_nil]; rfl))
              refine (rSame_c wr.drew t.2 s.2).mono ?_
              rw [HQ.out]
              rintro e w9 ⟨rfl, b9⟩
              refine Hb.back b9 b9.size ?_
              refine Hb.take (v := .bool false) 13 60 rfl ?_ (fun w' hw' => by go_simp; first | done | rfl | omega | exact wrap_in (by omega) (by omega) | exact Int.tmod_eq_emod_of_nonneg (by omega) | exact Int.tdiv_eq_ediv_of_nonneg (by omega) | (simp; omega))
              refine Hb.take (v := .bool false) 14 61 rfl ?_ (fun _ _ => rfl)
              refine Hb.take (v := .bool false) 15 11 rfl ?_ (fun _ _ => rfl)
              refine Hb.done ?_
-- END
              go_wp2_with fail
              go_roundw
              case rel => exact ⟨k + 1, false, by omega, by go_num, rfl, Lib.hid (by rw [HN.out, ← Bool.and_assoc, HU2.out, HQ.out]; rfl), Lib.hid (J.out.drew.past b9), Lib.hid (BL.out.drew.trans (b9.mono BL.out.size))⟩
              case measure => simp [intOf]; omega
        · obtain rfl : k = i := by omega
          have HU3 := Lib.hid (show ap (l.map (·.2)) (k + 1) = u' from HU2.out)
          clear HU2 HU
          go_wp2_with fail
          generalize hwq : wr = w8 at *
          clear hwq
          go_loopw [15, 16] (fun s15 s16 wq => ∃ (j : Nat) (v' : Bool), j ≤ r ∧ s16 = .int .i64 j ∧ s15 = .bool v' ∧ Hid ((cs.take j).any (fun x => mt x t.2) = v') ∧
              Hid (JA wq (some ⟨b, o, none⟩) A4 A5 A6 A7 c3 c4 c5 c6 c7 p q r l m cs) ∧ Hid (Below w.heap.size w wq))
            (fun _ s16 _ => r - (intOf s16).toNat)
          case atStart => exact ⟨0, false, by omega, rfl, rfl, Lib.hid rfl, J, BL⟩
          case round =>
            clear J BL
            obtain ⟨j, v', hj, rfl, rfl, HV2, J, BL⟩ := hrel
            by_cases hjr : j < r
            · obtain ⟨bc, oc, ec, rfl, hbc, hec, -, d0, d1, d2, d3, d4, d5, d6⟩ := J.out.c.ent hjr
              have HC := Lib.hid (any_step (e := t.2) hec)
              have b0 := (Below.refl wr.heap.size wr).alloc (Nat.le_refl _) (.cells #[.int .i64 ec.fr, .int .i64 ec.boot, .int .i64 ec.seq, .int .i64 ec.ord, .int .i64 ec.lev, .int .i64 ec.stamp, .string ec.data] 30)
              have hJ := J.out.past b0
              have hB := BL.out.trans (b0.mono BL.out.size)
              have hK := Blk.newEnt wr 30 ec
              go_upto_region 20 with fail
              clear d0 d1 d2 d3 d4 d5 d6 hbc hec b0
              generalize wr.alloc (.cells #[.int .i64 ec.fr, .int .i64 ec.boot, .int .i64 ec.seq, .int .i64 ec.ord, .int .i64 ec.lev, .int .i64 ec.stamp, .string ec.data] 30) = W at *
              have J1 := Lib.hid hJ
              have B1 := Lib.hid hB
              have KE := Lib.hid (show Blk W.drew wr.heap.size 30 (ecs ec) from hK)
              obtain ⟨b', o', t', eA, hb', ht', -, hr1⟩ := J1.out.a.told (i := k) (by omega)
              cases eA
              obtain rfl : t = t' := Option.some.inj (HT.out.symm.trans ht')
              have HB := Lib.hid (show b < W.drew.heap.size from hb')
              have HR := Lib.hid (show W.drew.rangeAt b (o + k * 8) (tcs t) from hr1)
              clear hJ hB hK hb' ht' hr1 J BL
              cases v'
              · skip
                cases hq0 : (PEnt.same ec t.2)
                · have Q0 := Lib.hid hq0
                  clear hq0
                  have HM := Lib.hid (show mt ec t.2 = false by unfold PJud.mt; rw [Q0.out]; simp)
                  go_wp2_with fail
-- REGION curfew/curfewlaw28.JudgeAll 20 jall200 18
                  refine Hb.begin ?_
                  refine Hb.take (v := .bool false) 0 72 rfl ?_ (fun _ _ => rfl)
                  refine Hb.take (v := .bool false) 1 73 rfl ?_ (fun _ _ => rfl)
                  refine Hb.take (v := ev ec) 2 74 rfl ?_ (fun w' hw' => by exact run_loadE ((KE.out.below hw' KE.out.lt).range) rfl)
                  refine Hb.take (v := .slice (some ⟨b, o, none⟩) p c3) 3 75 rfl ?_ (fun _ _ => rfl)
                  refine Hb.take (v := .int .i64 (k : Int)) 4 76 rfl ?_ (fun _ _ => rfl)
                  refine Hb.take (v := .pointer (some ⟨b, o + k * 8, none⟩)) 5 77 rfl ?_ (fun w' hw' => by go_simp; first | done | rfl | omega | exact wrap_in (by omega) (by omega) | exact Int.tmod_eq_emod_of_nonneg (by omega) | exact Int.tdiv_eq_ediv_of_nonneg (by omega) | (simp; omega))
                  refine Hb.take (v := .pointer (some ⟨b, o + k * 8 + 1, none⟩)) 6 78 rfl ?_ (fun w' hw' => by go_simp; first | done | rfl | omega | exact wrap_in (by omega) (by omega) | exact Int.tmod_eq_emod_of_nonneg (by omega) | exact Int.tdiv_eq_ediv_of_nonneg (by omega) | (simp; omega))
                  refine Hb.take (v := ev t.2) 7 79 rfl ?_ (fun w' hw' => by exact run_loadE (range_ent (rangeAt_below HR.out hw' HB.out)) rfl)
                  refine Hb.call (f := 11) (args := #[ev ec, ev t.2]) 8 80 rfl ?_ (run_callf Try.func11 (by kernel_rfl) (by kernel_rfl) (by simp only [List.map_toArray, List.map_cons, List.map_nil]; rfl))
                  refine (rSame_c W.drew ec t.2).mono ?_
                  rw [Q0.out]
                  rintro e w9 ⟨rfl, b9⟩
                  have KE9 := Lib.hid (KE.out.past b9)
                  have HR9 := Lib.hid (rangeAt_below HR.out b9 HB.out)
                  have HB9 := Lib.hid (show b < w9.heap.size from Nat.lt_of_lt_of_le HB.out b9.size)
                  refine Hb.back b9 b9.size ?_
                  refine Hb.take (v := .bool false) 9 81 rfl ?_ (fun _ _ => rfl)
                  refine Hb.pass 10 82 rfl ?_
                  refine Hb.pass 11 83 rfl ?_
                  refine Hb.pass 12 84 rfl ?_
                  refine Hb.pass 13 85 rfl ?_
                  refine Hb.pass 14 86 rfl ?_
                  refine Hb.pass 15 87 rfl ?_
                  refine Hb.pass 16 88 rfl ?_
                  refine Hb.pass 17 89 rfl ?_
                  refine Hb.pass 18 90 rfl ?_
                  refine Hb.take (v := .bool false) 19 91 rfl ?_ (fun _ _ => rfl)
                  refine Hb.take (v := .bool false) 20 92 rfl ?_ (fun _ _ => rfl)
                  refine Hb.pass 21 93 rfl ?_
                  refine Hb.pass 22 94 rfl ?_
                  refine Hb.pass 23 95 rfl ?_
                  refine Hb.pass 24 96 rfl ?_
                  refine Hb.pass 25 97 rfl ?_
                  refine Hb.pass 26 98 rfl ?_
                  refine Hb.pass 27 99 rfl ?_
                  refine Hb.pass 28 100 rfl ?_
                  refine Hb.pass 29 101 rfl ?_
                  refine Hb.take (v := .bool false) 30 102 rfl ?_ (fun _ _ => rfl)
                  refine Hb.take (v := .bool false) 31 103 rfl ?_ (fun _ _ => rfl)
                  refine Hb.pass 32 104 rfl ?_
                  refine Hb.pass 33 105 rfl ?_
                  refine Hb.pass 34 106 rfl ?_
                  refine Hb.pass 35 107 rfl ?_
                  refine Hb.pass 36 108 rfl ?_
                  refine Hb.pass 37 109 rfl ?_
                  refine Hb.pass 38 110 rfl ?_
                  refine Hb.pass 39 111 rfl ?_
                  refine Hb.pass 40 112 rfl ?_
                  refine Hb.take (v := .bool false) 41 113 rfl ?_ (fun _ _ => rfl)
                  refine Hb.take (v := .bool false) 42 114 rfl ?_ (fun _ _ => rfl)
                  refine Hb.take (v := .bool false) 43 15 rfl ?_ (fun _ _ => rfl)
                  refine Hb.done ?_
-- END
                  go_wp2_with fail
                  go_roundw
                  case rel => exact ⟨j + 1, false, by omega, by go_num, rfl, Lib.hid (by rw [HC.out, HV2.out, HM.out]; rfl), Lib.hid (J1.out.drew.past b9), Lib.hid (B1.out.drew.trans (b9.mono B1.out.size))⟩
                  case measure => simp [intOf]; omega
                · have Q0 := Lib.hid hq0
                  clear hq0
                  cases hq1 : (ec.ord == t.2.ord)
                  · have Q1 := Lib.hid hq1
                    clear hq1
                    have HM := Lib.hid (show mt ec t.2 = false by unfold PJud.mt; rw [Q0.out, dec_of_bne Q1.out]; simp)
                    go_wp2_with fail
-- REGION curfew/curfewlaw28.JudgeAll 20 jall201 20
                    refine Hb.begin ?_
                    refine Hb.take (v := .bool false) 0 72 rfl ?_ (fun _ _ => rfl)
                    refine Hb.take (v := .bool false) 1 73 rfl ?_ (fun _ _ => rfl)
                    refine Hb.take (v := ev ec) 2 74 rfl ?_ (fun w' hw' => by exact run_loadE ((KE.out.below hw' KE.out.lt).range) rfl)
                    refine Hb.take (v := .slice (some ⟨b, o, none⟩) p c3) 3 75 rfl ?_ (fun _ _ => rfl)
                    refine Hb.take (v := .int .i64 (k : Int)) 4 76 rfl ?_ (fun _ _ => rfl)
                    refine Hb.take (v := .pointer (some ⟨b, o + k * 8, none⟩)) 5 77 rfl ?_ (fun w' hw' => by go_simp; first | done | rfl | omega | exact wrap_in (by omega) (by omega) | exact Int.tmod_eq_emod_of_nonneg (by omega) | exact Int.tdiv_eq_ediv_of_nonneg (by omega) | (simp; omega))
                    refine Hb.take (v := .pointer (some ⟨b, o + k * 8 + 1, none⟩)) 6 78 rfl ?_ (fun w' hw' => by go_simp; first | done | rfl | omega | exact wrap_in (by omega) (by omega) | exact Int.tmod_eq_emod_of_nonneg (by omega) | exact Int.tdiv_eq_ediv_of_nonneg (by omega) | (simp; omega))
                    refine Hb.take (v := ev t.2) 7 79 rfl ?_ (fun w' hw' => by exact run_loadE (range_ent (rangeAt_below HR.out hw' HB.out)) rfl)
                    refine Hb.call (f := 11) (args := #[ev ec, ev t.2]) 8 80 rfl ?_ (run_callf Try.func11 (by kernel_rfl) (by kernel_rfl) (by simp only [List.map_toArray, List.map_cons, List.map_nil]; rfl))
                    refine (rSame_c W.drew ec t.2).mono ?_
                    rw [Q0.out]
                    rintro e w9 ⟨rfl, b9⟩
                    have KE9 := Lib.hid (KE.out.past b9)
                    have HR9 := Lib.hid (rangeAt_below HR.out b9 HB.out)
                    have HB9 := Lib.hid (show b < w9.heap.size from Nat.lt_of_lt_of_le HB.out b9.size)
                    refine Hb.back b9 b9.size ?_
                    refine Hb.take (v := .bool true) 9 81 rfl ?_ (fun _ _ => rfl)
                    refine Hb.take (v := .pointer (some ⟨wr.heap.size, 3, none⟩)) 10 82 rfl ?_ (fun w' hw' => by go_simp; first | done | rfl | omega | exact wrap_in (by omega) (by omega) | exact Int.tmod_eq_emod_of_nonneg (by omega) | exact Int.tdiv_eq_ediv_of_nonneg (by omega) | (simp; omega))
                    refine Hb.take (v := .int .i64 ec.ord) 11 83 rfl ?_ (fun w' hw' => by exact run_loadInt (Blk.cell (i := 3) (KE9.out.below hw' KE9.out.lt) rfl) rfl)
                    refine Hb.take (v := .slice (some ⟨b, o, none⟩) p c3) 12 84 rfl ?_ (fun _ _ => rfl)
                    refine Hb.take (v := .int .i64 (k : Int)) 13 85 rfl ?_ (fun _ _ => rfl)
                    refine Hb.take (v := .pointer (some ⟨b, o + k * 8, none⟩)) 14 86 rfl ?_ (fun w' hw' => by go_simp; first | done | rfl | omega | exact wrap_in (by omega) (by omega) | exact Int.tmod_eq_emod_of_nonneg (by omega) | exact Int.tdiv_eq_ediv_of_nonneg (by omega) | (simp; omega))
                    refine Hb.take (v := .pointer (some ⟨b, o + k * 8 + 1, none⟩)) 15 87 rfl ?_ (fun w' hw' => by go_simp; first | done | rfl | omega | exact wrap_in (by omega) (by omega) | exact Int.tmod_eq_emod_of_nonneg (by omega) | exact Int.tdiv_eq_ediv_of_nonneg (by omega) | (simp; omega))
                    refine Hb.take (v := .pointer (some ⟨b, o + k * 8 + 4, none⟩)) 16 88 rfl ?_ (fun w' hw' => by go_simp; first | done | rfl | omega | exact wrap_in (by omega) (by omega) | exact Int.tmod_eq_emod_of_nonneg (by omega) | exact Int.tdiv_eq_ediv_of_nonneg (by omega) | (simp; omega))
                    refine Hb.take (v := .int .i64 t.2.ord) 17 89 rfl ?_ (fun w' hw' => by exact run_loadInt (range_ord (rangeAt_below HR9.out hw' HB9.out)) rfl)
                    refine Hb.take (v := .bool false) 18 90 rfl ?_ (fun w' hw' => by have hq := Q1.out; go_simp)
                    refine Hb.take (v := .bool false) 19 91 rfl ?_ (fun _ _ => rfl)
                    refine Hb.take (v := .bool false) 20 92 rfl ?_ (fun _ _ => rfl)
                    refine Hb.pass 21 93 rfl ?_
                    refine Hb.pass 22 94 rfl ?_
                    refine Hb.pass 23 95 rfl ?_
                    refine Hb.pass 24 96 rfl ?_
                    refine Hb.pass 25 97 rfl ?_
                    refine Hb.pass 26 98 rfl ?_
                    refine Hb.pass 27 99 rfl ?_
                    refine Hb.pass 28 100 rfl ?_
                    refine Hb.pass 29 101 rfl ?_
                    refine Hb.take (v := .bool false) 30 102 rfl ?_ (fun _ _ => rfl)
                    refine Hb.take (v := .bool false) 31 103 rfl ?_ (fun _ _ => rfl)
                    refine Hb.pass 32 104 rfl ?_
                    refine Hb.pass 33 105 rfl ?_
                    refine Hb.pass 34 106 rfl ?_
                    refine Hb.pass 35 107 rfl ?_
                    refine Hb.pass 36 108 rfl ?_
                    refine Hb.pass 37 109 rfl ?_
                    refine Hb.pass 38 110 rfl ?_
                    refine Hb.pass 39 111 rfl ?_
                    refine Hb.pass 40 112 rfl ?_
                    refine Hb.take (v := .bool false) 41 113 rfl ?_ (fun _ _ => rfl)
                    refine Hb.take (v := .bool false) 42 114 rfl ?_ (fun _ _ => rfl)
                    refine Hb.take (v := .bool false) 43 15 rfl ?_ (fun _ _ => rfl)
                    refine Hb.done ?_
-- END
                    go_wp2_with fail
                    go_roundw
                    case rel => exact ⟨j + 1, false, by omega, by go_num, rfl, Lib.hid (by rw [HC.out, HV2.out, HM.out]; rfl), Lib.hid (J1.out.drew.past b9), Lib.hid (B1.out.drew.trans (b9.mono B1.out.size))⟩
                    case measure => simp [intOf]; omega
                  · have Q1 := Lib.hid hq1
                    clear hq1
                    cases hq2 : (ec.lev == t.2.lev)
                    · have Q2 := Lib.hid hq2
                      clear hq2
                      have HM := Lib.hid (show mt ec t.2 = false by unfold PJud.mt; rw [Q0.out, dec_of_beq Q1.out, dec_of_bne Q2.out]; simp)
                      go_wp2_with fail
-- REGION curfew/curfewlaw28.JudgeAll 20 jall202 22
                      refine Hb.begin ?_
                      refine Hb.take (v := .bool false) 0 72 rfl ?_ (fun _ _ => rfl)
                      refine Hb.take (v := .bool false) 1 73 rfl ?_ (fun _ _ => rfl)
                      refine Hb.take (v := ev ec) 2 74 rfl ?_ (fun w' hw' => by exact run_loadE ((KE.out.below hw' KE.out.lt).range) rfl)
                      refine Hb.take (v := .slice (some ⟨b, o, none⟩) p c3) 3 75 rfl ?_ (fun _ _ => rfl)
                      refine Hb.take (v := .int .i64 (k : Int)) 4 76 rfl ?_ (fun _ _ => rfl)
                      refine Hb.take (v := .pointer (some ⟨b, o + k * 8, none⟩)) 5 77 rfl ?_ (fun w' hw' => by go_simp; first | done | rfl | omega | exact wrap_in (by omega) (by omega) | exact Int.tmod_eq_emod_of_nonneg (by omega) | exact Int.tdiv_eq_ediv_of_nonneg (by omega) | (simp; omega))
                      refine Hb.take (v := .pointer (some ⟨b, o + k * 8 + 1, none⟩)) 6 78 rfl ?_ (fun w' hw' => by go_simp; first | done | rfl | omega | exact wrap_in (by omega) (by omega) | exact Int.tmod_eq_emod_of_nonneg (by omega) | exact Int.tdiv_eq_ediv_of_nonneg (by omega) | (simp; omega))
                      refine Hb.take (v := ev t.2) 7 79 rfl ?_ (fun w' hw' => by exact run_loadE (range_ent (rangeAt_below HR.out hw' HB.out)) rfl)
                      refine Hb.call (f := 11) (args := #[ev ec, ev t.2]) 8 80 rfl ?_ (run_callf Try.func11 (by kernel_rfl) (by kernel_rfl) (by simp only [List.map_toArray, List.map_cons, List.map_nil]; rfl))
                      refine (rSame_c W.drew ec t.2).mono ?_
                      rw [Q0.out]
                      rintro e w9 ⟨rfl, b9⟩
                      have KE9 := Lib.hid (KE.out.past b9)
                      have HR9 := Lib.hid (rangeAt_below HR.out b9 HB.out)
                      have HB9 := Lib.hid (show b < w9.heap.size from Nat.lt_of_lt_of_le HB.out b9.size)
                      refine Hb.back b9 b9.size ?_
                      refine Hb.take (v := .bool true) 9 81 rfl ?_ (fun _ _ => rfl)
                      refine Hb.take (v := .pointer (some ⟨wr.heap.size, 3, none⟩)) 10 82 rfl ?_ (fun w' hw' => by go_simp; first | done | rfl | omega | exact wrap_in (by omega) (by omega) | exact Int.tmod_eq_emod_of_nonneg (by omega) | exact Int.tdiv_eq_ediv_of_nonneg (by omega) | (simp; omega))
                      refine Hb.take (v := .int .i64 ec.ord) 11 83 rfl ?_ (fun w' hw' => by exact run_loadInt (Blk.cell (i := 3) (KE9.out.below hw' KE9.out.lt) rfl) rfl)
                      refine Hb.take (v := .slice (some ⟨b, o, none⟩) p c3) 12 84 rfl ?_ (fun _ _ => rfl)
                      refine Hb.take (v := .int .i64 (k : Int)) 13 85 rfl ?_ (fun _ _ => rfl)
                      refine Hb.take (v := .pointer (some ⟨b, o + k * 8, none⟩)) 14 86 rfl ?_ (fun w' hw' => by go_simp; first | done | rfl | omega | exact wrap_in (by omega) (by omega) | exact Int.tmod_eq_emod_of_nonneg (by omega) | exact Int.tdiv_eq_ediv_of_nonneg (by omega) | (simp; omega))
                      refine Hb.take (v := .pointer (some ⟨b, o + k * 8 + 1, none⟩)) 15 87 rfl ?_ (fun w' hw' => by go_simp; first | done | rfl | omega | exact wrap_in (by omega) (by omega) | exact Int.tmod_eq_emod_of_nonneg (by omega) | exact Int.tdiv_eq_ediv_of_nonneg (by omega) | (simp; omega))
                      refine Hb.take (v := .pointer (some ⟨b, o + k * 8 + 4, none⟩)) 16 88 rfl ?_ (fun w' hw' => by go_simp; first | done | rfl | omega | exact wrap_in (by omega) (by omega) | exact Int.tmod_eq_emod_of_nonneg (by omega) | exact Int.tdiv_eq_ediv_of_nonneg (by omega) | (simp; omega))
                      refine Hb.take (v := .int .i64 t.2.ord) 17 89 rfl ?_ (fun w' hw' => by exact run_loadInt (range_ord (rangeAt_below HR9.out hw' HB9.out)) rfl)
                      refine Hb.take (v := .bool true) 18 90 rfl ?_ (fun w' hw' => by have hq := Q1.out; go_simp)
                      refine Hb.take (v := .bool true) 19 91 rfl ?_ (fun _ _ => rfl)
                      refine Hb.take (v := .bool true) 20 92 rfl ?_ (fun _ _ => rfl)
                      refine Hb.take (v := .pointer (some ⟨wr.heap.size, 4, none⟩)) 21 93 rfl ?_ (fun w' hw' => by go_simp; first | done | rfl | omega | exact wrap_in (by omega) (by omega) | exact Int.tmod_eq_emod_of_nonneg (by omega) | exact Int.tdiv_eq_ediv_of_nonneg (by omega) | (simp; omega))
                      refine Hb.take (v := .int .i64 ec.lev) 22 94 rfl ?_ (fun w' hw' => by exact run_loadInt (Blk.cell (i := 4) (KE9.out.below hw' KE9.out.lt) rfl) rfl)
                      refine Hb.take (v := .slice (some ⟨b, o, none⟩) p c3) 23 95 rfl ?_ (fun _ _ => rfl)
                      refine Hb.take (v := .int .i64 (k : Int)) 24 96 rfl ?_ (fun _ _ => rfl)
                      refine Hb.take (v := .pointer (some ⟨b, o + k * 8, none⟩)) 25 97 rfl ?_ (fun w' hw' => by go_simp; first | done | rfl | omega | exact wrap_in (by omega) (by omega) | exact Int.tmod_eq_emod_of_nonneg (by omega) | exact Int.tdiv_eq_ediv_of_nonneg (by omega) | (simp; omega))
                      refine Hb.take (v := .pointer (some ⟨b, o + k * 8 + 1, none⟩)) 26 98 rfl ?_ (fun w' hw' => by go_simp; first | done | rfl | omega | exact wrap_in (by omega) (by omega) | exact Int.tmod_eq_emod_of_nonneg (by omega) | exact Int.tdiv_eq_ediv_of_nonneg (by omega) | (simp; omega))
                      refine Hb.take (v := .pointer (some ⟨b, o + k * 8 + 5, none⟩)) 27 99 rfl ?_ (fun w' hw' => by go_simp; first | done | rfl | omega | exact wrap_in (by omega) (by omega) | exact Int.tmod_eq_emod_of_nonneg (by omega) | exact Int.tdiv_eq_ediv_of_nonneg (by omega) | (simp; omega))
                      refine Hb.take (v := .int .i64 t.2.lev) 28 100 rfl ?_ (fun w' hw' => by exact run_loadInt (range_lev (rangeAt_below HR9.out hw' HB9.out)) rfl)
                      refine Hb.take (v := .bool false) 29 101 rfl ?_ (fun w' hw' => by have hq := Q2.out; go_simp)
                      refine Hb.take (v := .bool false) 30 102 rfl ?_ (fun _ _ => rfl)
                      refine Hb.take (v := .bool false) 31 103 rfl ?_ (fun _ _ => rfl)
                      refine Hb.pass 32 104 rfl ?_
                      refine Hb.pass 33 105 rfl ?_
                      refine Hb.pass 34 106 rfl ?_
                      refine Hb.pass 35 107 rfl ?_
                      refine Hb.pass 36 108 rfl ?_
                      refine Hb.pass 37 109 rfl ?_
                      refine Hb.pass 38 110 rfl ?_
                      refine Hb.pass 39 111 rfl ?_
                      refine Hb.pass 40 112 rfl ?_
                      refine Hb.take (v := .bool false) 41 113 rfl ?_ (fun _ _ => rfl)
                      refine Hb.take (v := .bool false) 42 114 rfl ?_ (fun _ _ => rfl)
                      refine Hb.take (v := .bool false) 43 15 rfl ?_ (fun _ _ => rfl)
                      refine Hb.done ?_
-- END
                      go_wp2_with fail
                      go_roundw
                      case rel => exact ⟨j + 1, false, by omega, by go_num, rfl, Lib.hid (by rw [HC.out, HV2.out, HM.out]; rfl), Lib.hid (J1.out.drew.past b9), Lib.hid (B1.out.drew.trans (b9.mono B1.out.size))⟩
                      case measure => simp [intOf]; omega
                    · have Q2 := Lib.hid hq2
                      clear hq2
                      cases hq3 : (ec.data.toList == t.2.data.toList)
                      · have Q3 := Lib.hid hq3
                        clear hq3
                        have HM := Lib.hid (show mt ec t.2 = false by unfold PJud.mt; rw [Q0.out, dec_of_beq Q1.out, dec_of_beq Q2.out, Q3.out]; simp)
                        go_wp2_with fail
-- REGION curfew/curfewlaw28.JudgeAll 20 jall203 24
                        refine Hb.begin ?_
                        refine Hb.take (v := .bool false) 0 72 rfl ?_ (fun _ _ => rfl)
                        refine Hb.take (v := .bool false) 1 73 rfl ?_ (fun _ _ => rfl)
                        refine Hb.take (v := ev ec) 2 74 rfl ?_ (fun w' hw' => by exact run_loadE ((KE.out.below hw' KE.out.lt).range) rfl)
                        refine Hb.take (v := .slice (some ⟨b, o, none⟩) p c3) 3 75 rfl ?_ (fun _ _ => rfl)
                        refine Hb.take (v := .int .i64 (k : Int)) 4 76 rfl ?_ (fun _ _ => rfl)
                        refine Hb.take (v := .pointer (some ⟨b, o + k * 8, none⟩)) 5 77 rfl ?_ (fun w' hw' => by go_simp; first | done | rfl | omega | exact wrap_in (by omega) (by omega) | exact Int.tmod_eq_emod_of_nonneg (by omega) | exact Int.tdiv_eq_ediv_of_nonneg (by omega) | (simp; omega))
                        refine Hb.take (v := .pointer (some ⟨b, o + k * 8 + 1, none⟩)) 6 78 rfl ?_ (fun w' hw' => by go_simp; first | done | rfl | omega | exact wrap_in (by omega) (by omega) | exact Int.tmod_eq_emod_of_nonneg (by omega) | exact Int.tdiv_eq_ediv_of_nonneg (by omega) | (simp; omega))
                        refine Hb.take (v := ev t.2) 7 79 rfl ?_ (fun w' hw' => by exact run_loadE (range_ent (rangeAt_below HR.out hw' HB.out)) rfl)
                        refine Hb.call (f := 11) (args := #[ev ec, ev t.2]) 8 80 rfl ?_ (run_callf Try.func11 (by kernel_rfl) (by kernel_rfl) (by simp only [List.map_toArray, List.map_cons, List.map_nil]; rfl))
                        refine (rSame_c W.drew ec t.2).mono ?_
                        rw [Q0.out]
                        rintro e w9 ⟨rfl, b9⟩
                        have KE9 := Lib.hid (KE.out.past b9)
                        have HR9 := Lib.hid (rangeAt_below HR.out b9 HB.out)
                        have HB9 := Lib.hid (show b < w9.heap.size from Nat.lt_of_lt_of_le HB.out b9.size)
                        refine Hb.back b9 b9.size ?_
                        refine Hb.take (v := .bool true) 9 81 rfl ?_ (fun _ _ => rfl)
                        refine Hb.take (v := .pointer (some ⟨wr.heap.size, 3, none⟩)) 10 82 rfl ?_ (fun w' hw' => by go_simp; first | done | rfl | omega | exact wrap_in (by omega) (by omega) | exact Int.tmod_eq_emod_of_nonneg (by omega) | exact Int.tdiv_eq_ediv_of_nonneg (by omega) | (simp; omega))
                        refine Hb.take (v := .int .i64 ec.ord) 11 83 rfl ?_ (fun w' hw' => by exact run_loadInt (Blk.cell (i := 3) (KE9.out.below hw' KE9.out.lt) rfl) rfl)
                        refine Hb.take (v := .slice (some ⟨b, o, none⟩) p c3) 12 84 rfl ?_ (fun _ _ => rfl)
                        refine Hb.take (v := .int .i64 (k : Int)) 13 85 rfl ?_ (fun _ _ => rfl)
                        refine Hb.take (v := .pointer (some ⟨b, o + k * 8, none⟩)) 14 86 rfl ?_ (fun w' hw' => by go_simp; first | done | rfl | omega | exact wrap_in (by omega) (by omega) | exact Int.tmod_eq_emod_of_nonneg (by omega) | exact Int.tdiv_eq_ediv_of_nonneg (by omega) | (simp; omega))
                        refine Hb.take (v := .pointer (some ⟨b, o + k * 8 + 1, none⟩)) 15 87 rfl ?_ (fun w' hw' => by go_simp; first | done | rfl | omega | exact wrap_in (by omega) (by omega) | exact Int.tmod_eq_emod_of_nonneg (by omega) | exact Int.tdiv_eq_ediv_of_nonneg (by omega) | (simp; omega))
                        refine Hb.take (v := .pointer (some ⟨b, o + k * 8 + 4, none⟩)) 16 88 rfl ?_ (fun w' hw' => by go_simp; first | done | rfl | omega | exact wrap_in (by omega) (by omega) | exact Int.tmod_eq_emod_of_nonneg (by omega) | exact Int.tdiv_eq_ediv_of_nonneg (by omega) | (simp; omega))
                        refine Hb.take (v := .int .i64 t.2.ord) 17 89 rfl ?_ (fun w' hw' => by exact run_loadInt (range_ord (rangeAt_below HR9.out hw' HB9.out)) rfl)
                        refine Hb.take (v := .bool true) 18 90 rfl ?_ (fun w' hw' => by have hq := Q1.out; go_simp)
                        refine Hb.take (v := .bool true) 19 91 rfl ?_ (fun _ _ => rfl)
                        refine Hb.take (v := .bool true) 20 92 rfl ?_ (fun _ _ => rfl)
                        refine Hb.take (v := .pointer (some ⟨wr.heap.size, 4, none⟩)) 21 93 rfl ?_ (fun w' hw' => by go_simp; first | done | rfl | omega | exact wrap_in (by omega) (by omega) | exact Int.tmod_eq_emod_of_nonneg (by omega) | exact Int.tdiv_eq_ediv_of_nonneg (by omega) | (simp; omega))
                        refine Hb.take (v := .int .i64 ec.lev) 22 94 rfl ?_ (fun w' hw' => by exact run_loadInt (Blk.cell (i := 4) (KE9.out.below hw' KE9.out.lt) rfl) rfl)
                        refine Hb.take (v := .slice (some ⟨b, o, none⟩) p c3) 23 95 rfl ?_ (fun _ _ => rfl)
                        refine Hb.take (v := .int .i64 (k : Int)) 24 96 rfl ?_ (fun _ _ => rfl)
                        refine Hb.take (v := .pointer (some ⟨b, o + k * 8, none⟩)) 25 97 rfl ?_ (fun w' hw' => by go_simp; first | done | rfl | omega | exact wrap_in (by omega) (by omega) | exact Int.tmod_eq_emod_of_nonneg (by omega) | exact Int.tdiv_eq_ediv_of_nonneg (by omega) | (simp; omega))
                        refine Hb.take (v := .pointer (some ⟨b, o + k * 8 + 1, none⟩)) 26 98 rfl ?_ (fun w' hw' => by go_simp; first | done | rfl | omega | exact wrap_in (by omega) (by omega) | exact Int.tmod_eq_emod_of_nonneg (by omega) | exact Int.tdiv_eq_ediv_of_nonneg (by omega) | (simp; omega))
                        refine Hb.take (v := .pointer (some ⟨b, o + k * 8 + 5, none⟩)) 27 99 rfl ?_ (fun w' hw' => by go_simp; first | done | rfl | omega | exact wrap_in (by omega) (by omega) | exact Int.tmod_eq_emod_of_nonneg (by omega) | exact Int.tdiv_eq_ediv_of_nonneg (by omega) | (simp; omega))
                        refine Hb.take (v := .int .i64 t.2.lev) 28 100 rfl ?_ (fun w' hw' => by exact run_loadInt (range_lev (rangeAt_below HR9.out hw' HB9.out)) rfl)
                        refine Hb.take (v := .bool true) 29 101 rfl ?_ (fun w' hw' => by have hq := Q2.out; go_simp)
                        refine Hb.take (v := .bool true) 30 102 rfl ?_ (fun _ _ => rfl)
                        refine Hb.take (v := .bool true) 31 103 rfl ?_ (fun _ _ => rfl)
                        refine Hb.take (v := .pointer (some ⟨wr.heap.size, 6, none⟩)) 32 104 rfl ?_ (fun w' hw' => by go_simp; first | done | rfl | omega | exact wrap_in (by omega) (by omega) | exact Int.tmod_eq_emod_of_nonneg (by omega) | exact Int.tdiv_eq_ediv_of_nonneg (by omega) | (simp; omega))
                        refine Hb.take (v := .string ec.data) 33 105 rfl ?_ (fun w' hw' => by exact run_loadStr (Blk.cell (i := 6) (KE9.out.below hw' KE9.out.lt) rfl) rfl)
                        refine Hb.take (v := .slice (some ⟨b, o, none⟩) p c3) 34 106 rfl ?_ (fun _ _ => rfl)
                        refine Hb.take (v := .int .i64 (k : Int)) 35 107 rfl ?_ (fun _ _ => rfl)
                        refine Hb.take (v := .pointer (some ⟨b, o + k * 8, none⟩)) 36 108 rfl ?_ (fun w' hw' => by go_simp; first | done | rfl | omega | exact wrap_in (by omega) (by omega) | exact Int.tmod_eq_emod_of_nonneg (by omega) | exact Int.tdiv_eq_ediv_of_nonneg (by omega) | (simp; omega))
                        refine Hb.take (v := .pointer (some ⟨b, o + k * 8 + 1, none⟩)) 37 109 rfl ?_ (fun w' hw' => by go_simp; first | done | rfl | omega | exact wrap_in (by omega) (by omega) | exact Int.tmod_eq_emod_of_nonneg (by omega) | exact Int.tdiv_eq_ediv_of_nonneg (by omega) | (simp; omega))
                        refine Hb.take (v := .pointer (some ⟨b, o + k * 8 + 7, none⟩)) 38 110 rfl ?_ (fun w' hw' => by go_simp; first | done | rfl | omega | exact wrap_in (by omega) (by omega) | exact Int.tmod_eq_emod_of_nonneg (by omega) | exact Int.tdiv_eq_ediv_of_nonneg (by omega) | (simp; omega))
                        refine Hb.take (v := .string t.2.data) 39 111 rfl ?_ (fun w' hw' => by exact run_loadStr (range_data (rangeAt_below HR9.out hw' HB9.out)) rfl)
                        refine Hb.take (v := .bool false) 40 112 rfl ?_ (fun w' hw' => by have hq := Q3.out; go_simp)
                        refine Hb.take (v := .bool false) 41 113 rfl ?_ (fun _ _ => rfl)
                        refine Hb.take (v := .bool false) 42 114 rfl ?_ (fun _ _ => rfl)
                        refine Hb.take (v := .bool false) 43 15 rfl ?_ (fun _ _ => rfl)
                        refine Hb.done ?_
-- END
                        go_wp2_with fail
                        go_roundw
                        case rel => exact ⟨j + 1, false, by omega, by go_num, rfl, Lib.hid (by rw [HC.out, HV2.out, HM.out]; rfl), Lib.hid (J1.out.drew.past b9), Lib.hid (B1.out.drew.trans (b9.mono B1.out.size))⟩
                        case measure => simp [intOf]; omega
                      · have Q3 := Lib.hid hq3
                        clear hq3
                        have HM := Lib.hid (show mt ec t.2 = true by unfold PJud.mt; rw [Q0.out, dec_of_beq Q1.out, dec_of_beq Q2.out, Q3.out]; rfl)
                        go_wp2_with fail
-- REGION curfew/curfewlaw28.JudgeAll 20 jall204 24
                        refine Hb.begin ?_
                        refine Hb.take (v := .bool false) 0 72 rfl ?_ (fun _ _ => rfl)
                        refine Hb.take (v := .bool false) 1 73 rfl ?_ (fun _ _ => rfl)
                        refine Hb.take (v := ev ec) 2 74 rfl ?_ (fun w' hw' => by exact run_loadE ((KE.out.below hw' KE.out.lt).range) rfl)
                        refine Hb.take (v := .slice (some ⟨b, o, none⟩) p c3) 3 75 rfl ?_ (fun _ _ => rfl)
                        refine Hb.take (v := .int .i64 (k : Int)) 4 76 rfl ?_ (fun _ _ => rfl)
                        refine Hb.take (v := .pointer (some ⟨b, o + k * 8, none⟩)) 5 77 rfl ?_ (fun w' hw' => by go_simp; first | done | rfl | omega | exact wrap_in (by omega) (by omega) | exact Int.tmod_eq_emod_of_nonneg (by omega) | exact Int.tdiv_eq_ediv_of_nonneg (by omega) | (simp; omega))
                        refine Hb.take (v := .pointer (some ⟨b, o + k * 8 + 1, none⟩)) 6 78 rfl ?_ (fun w' hw' => by go_simp; first | done | rfl | omega | exact wrap_in (by omega) (by omega) | exact Int.tmod_eq_emod_of_nonneg (by omega) | exact Int.tdiv_eq_ediv_of_nonneg (by omega) | (simp; omega))
                        refine Hb.take (v := ev t.2) 7 79 rfl ?_ (fun w' hw' => by exact run_loadE (range_ent (rangeAt_below HR.out hw' HB.out)) rfl)
                        refine Hb.call (f := 11) (args := #[ev ec, ev t.2]) 8 80 rfl ?_ (run_callf Try.func11 (by kernel_rfl) (by kernel_rfl) (by simp only [List.map_toArray, List.map_cons, List.map_nil]; rfl))
                        refine (rSame_c W.drew ec t.2).mono ?_
                        rw [Q0.out]
                        rintro e w9 ⟨rfl, b9⟩
                        have KE9 := Lib.hid (KE.out.past b9)
                        have HR9 := Lib.hid (rangeAt_below HR.out b9 HB.out)
                        have HB9 := Lib.hid (show b < w9.heap.size from Nat.lt_of_lt_of_le HB.out b9.size)
                        refine Hb.back b9 b9.size ?_
                        refine Hb.take (v := .bool true) 9 81 rfl ?_ (fun _ _ => rfl)
                        refine Hb.take (v := .pointer (some ⟨wr.heap.size, 3, none⟩)) 10 82 rfl ?_ (fun w' hw' => by go_simp; first | done | rfl | omega | exact wrap_in (by omega) (by omega) | exact Int.tmod_eq_emod_of_nonneg (by omega) | exact Int.tdiv_eq_ediv_of_nonneg (by omega) | (simp; omega))
                        refine Hb.take (v := .int .i64 ec.ord) 11 83 rfl ?_ (fun w' hw' => by exact run_loadInt (Blk.cell (i := 3) (KE9.out.below hw' KE9.out.lt) rfl) rfl)
                        refine Hb.take (v := .slice (some ⟨b, o, none⟩) p c3) 12 84 rfl ?_ (fun _ _ => rfl)
                        refine Hb.take (v := .int .i64 (k : Int)) 13 85 rfl ?_ (fun _ _ => rfl)
                        refine Hb.take (v := .pointer (some ⟨b, o + k * 8, none⟩)) 14 86 rfl ?_ (fun w' hw' => by go_simp; first | done | rfl | omega | exact wrap_in (by omega) (by omega) | exact Int.tmod_eq_emod_of_nonneg (by omega) | exact Int.tdiv_eq_ediv_of_nonneg (by omega) | (simp; omega))
                        refine Hb.take (v := .pointer (some ⟨b, o + k * 8 + 1, none⟩)) 15 87 rfl ?_ (fun w' hw' => by go_simp; first | done | rfl | omega | exact wrap_in (by omega) (by omega) | exact Int.tmod_eq_emod_of_nonneg (by omega) | exact Int.tdiv_eq_ediv_of_nonneg (by omega) | (simp; omega))
                        refine Hb.take (v := .pointer (some ⟨b, o + k * 8 + 4, none⟩)) 16 88 rfl ?_ (fun w' hw' => by go_simp; first | done | rfl | omega | exact wrap_in (by omega) (by omega) | exact Int.tmod_eq_emod_of_nonneg (by omega) | exact Int.tdiv_eq_ediv_of_nonneg (by omega) | (simp; omega))
                        refine Hb.take (v := .int .i64 t.2.ord) 17 89 rfl ?_ (fun w' hw' => by exact run_loadInt (range_ord (rangeAt_below HR9.out hw' HB9.out)) rfl)
                        refine Hb.take (v := .bool true) 18 90 rfl ?_ (fun w' hw' => by have hq := Q1.out; go_simp)
                        refine Hb.take (v := .bool true) 19 91 rfl ?_ (fun _ _ => rfl)
                        refine Hb.take (v := .bool true) 20 92 rfl ?_ (fun _ _ => rfl)
                        refine Hb.take (v := .pointer (some ⟨wr.heap.size, 4, none⟩)) 21 93 rfl ?_ (fun w' hw' => by go_simp; first | done | rfl | omega | exact wrap_in (by omega) (by omega) | exact Int.tmod_eq_emod_of_nonneg (by omega) | exact Int.tdiv_eq_ediv_of_nonneg (by omega) | (simp; omega))
                        refine Hb.take (v := .int .i64 ec.lev) 22 94 rfl ?_ (fun w' hw' => by exact run_loadInt (Blk.cell (i := 4) (KE9.out.below hw' KE9.out.lt) rfl) rfl)
                        refine Hb.take (v := .slice (some ⟨b, o, none⟩) p c3) 23 95 rfl ?_ (fun _ _ => rfl)
                        refine Hb.take (v := .int .i64 (k : Int)) 24 96 rfl ?_ (fun _ _ => rfl)
                        refine Hb.take (v := .pointer (some ⟨b, o + k * 8, none⟩)) 25 97 rfl ?_ (fun w' hw' => by go_simp; first | done | rfl | omega | exact wrap_in (by omega) (by omega) | exact Int.tmod_eq_emod_of_nonneg (by omega) | exact Int.tdiv_eq_ediv_of_nonneg (by omega) | (simp; omega))
                        refine Hb.take (v := .pointer (some ⟨b, o + k * 8 + 1, none⟩)) 26 98 rfl ?_ (fun w' hw' => by go_simp; first | done | rfl | omega | exact wrap_in (by omega) (by omega) | exact Int.tmod_eq_emod_of_nonneg (by omega) | exact Int.tdiv_eq_ediv_of_nonneg (by omega) | (simp; omega))
                        refine Hb.take (v := .pointer (some ⟨b, o + k * 8 + 5, none⟩)) 27 99 rfl ?_ (fun w' hw' => by go_simp; first | done | rfl | omega | exact wrap_in (by omega) (by omega) | exact Int.tmod_eq_emod_of_nonneg (by omega) | exact Int.tdiv_eq_ediv_of_nonneg (by omega) | (simp; omega))
                        refine Hb.take (v := .int .i64 t.2.lev) 28 100 rfl ?_ (fun w' hw' => by exact run_loadInt (range_lev (rangeAt_below HR9.out hw' HB9.out)) rfl)
                        refine Hb.take (v := .bool true) 29 101 rfl ?_ (fun w' hw' => by have hq := Q2.out; go_simp)
                        refine Hb.take (v := .bool true) 30 102 rfl ?_ (fun _ _ => rfl)
                        refine Hb.take (v := .bool true) 31 103 rfl ?_ (fun _ _ => rfl)
                        refine Hb.take (v := .pointer (some ⟨wr.heap.size, 6, none⟩)) 32 104 rfl ?_ (fun w' hw' => by go_simp; first | done | rfl | omega | exact wrap_in (by omega) (by omega) | exact Int.tmod_eq_emod_of_nonneg (by omega) | exact Int.tdiv_eq_ediv_of_nonneg (by omega) | (simp; omega))
                        refine Hb.take (v := .string ec.data) 33 105 rfl ?_ (fun w' hw' => by exact run_loadStr (Blk.cell (i := 6) (KE9.out.below hw' KE9.out.lt) rfl) rfl)
                        refine Hb.take (v := .slice (some ⟨b, o, none⟩) p c3) 34 106 rfl ?_ (fun _ _ => rfl)
                        refine Hb.take (v := .int .i64 (k : Int)) 35 107 rfl ?_ (fun _ _ => rfl)
                        refine Hb.take (v := .pointer (some ⟨b, o + k * 8, none⟩)) 36 108 rfl ?_ (fun w' hw' => by go_simp; first | done | rfl | omega | exact wrap_in (by omega) (by omega) | exact Int.tmod_eq_emod_of_nonneg (by omega) | exact Int.tdiv_eq_ediv_of_nonneg (by omega) | (simp; omega))
                        refine Hb.take (v := .pointer (some ⟨b, o + k * 8 + 1, none⟩)) 37 109 rfl ?_ (fun w' hw' => by go_simp; first | done | rfl | omega | exact wrap_in (by omega) (by omega) | exact Int.tmod_eq_emod_of_nonneg (by omega) | exact Int.tdiv_eq_ediv_of_nonneg (by omega) | (simp; omega))
                        refine Hb.take (v := .pointer (some ⟨b, o + k * 8 + 7, none⟩)) 38 110 rfl ?_ (fun w' hw' => by go_simp; first | done | rfl | omega | exact wrap_in (by omega) (by omega) | exact Int.tmod_eq_emod_of_nonneg (by omega) | exact Int.tdiv_eq_ediv_of_nonneg (by omega) | (simp; omega))
                        refine Hb.take (v := .string t.2.data) 39 111 rfl ?_ (fun w' hw' => by exact run_loadStr (range_data (rangeAt_below HR9.out hw' HB9.out)) rfl)
                        refine Hb.take (v := .bool true) 40 112 rfl ?_ (fun w' hw' => by have hq := Q3.out; go_simp)
                        refine Hb.take (v := .bool true) 41 113 rfl ?_ (fun _ _ => rfl)
                        refine Hb.take (v := .bool true) 42 114 rfl ?_ (fun _ _ => rfl)
                        refine Hb.take (v := .bool true) 43 15 rfl ?_ (fun _ _ => rfl)
                        refine Hb.done ?_
-- END
                        go_wp2_with fail
                        go_roundw
                        case rel => exact ⟨j + 1, true, by omega, by go_num, rfl, Lib.hid (by rw [HC.out, HV2.out, HM.out]; rfl), Lib.hid (J1.out.drew.past b9), Lib.hid (B1.out.drew.trans (b9.mono B1.out.size))⟩
                        case measure => simp [intOf]; omega
              · skip
                go_wp2_with fail
-- REGION curfew/curfewlaw28.JudgeAll 20 jall20n 16
                refine Hb.begin ?_
                refine Hb.take (v := .bool true) 0 72 rfl ?_ (fun _ _ => rfl)
                refine Hb.take (v := .bool true) 1 73 rfl ?_ (fun _ _ => rfl)
                refine Hb.pass 2 74 rfl ?_
                refine Hb.pass 3 75 rfl ?_
                refine Hb.pass 4 76 rfl ?_
                refine Hb.pass 5 77 rfl ?_
                refine Hb.pass 6 78 rfl ?_
                refine Hb.pass 7 79 rfl ?_
                refine Hb.pass 8 80 rfl ?_
                refine Hb.pass 9 81 rfl ?_
                refine Hb.pass 10 82 rfl ?_
                refine Hb.pass 11 83 rfl ?_
                refine Hb.pass 12 84 rfl ?_
                refine Hb.pass 13 85 rfl ?_
                refine Hb.pass 14 86 rfl ?_
                refine Hb.pass 15 87 rfl ?_
                refine Hb.pass 16 88 rfl ?_
                refine Hb.pass 17 89 rfl ?_
                refine Hb.pass 18 90 rfl ?_
                refine Hb.pass 19 91 rfl ?_
                refine Hb.pass 20 92 rfl ?_
                refine Hb.pass 21 93 rfl ?_
                refine Hb.pass 22 94 rfl ?_
                refine Hb.pass 23 95 rfl ?_
                refine Hb.pass 24 96 rfl ?_
                refine Hb.pass 25 97 rfl ?_
                refine Hb.pass 26 98 rfl ?_
                refine Hb.pass 27 99 rfl ?_
                refine Hb.pass 28 100 rfl ?_
                refine Hb.pass 29 101 rfl ?_
                refine Hb.pass 30 102 rfl ?_
                refine Hb.pass 31 103 rfl ?_
                refine Hb.pass 32 104 rfl ?_
                refine Hb.pass 33 105 rfl ?_
                refine Hb.pass 34 106 rfl ?_
                refine Hb.pass 35 107 rfl ?_
                refine Hb.pass 36 108 rfl ?_
                refine Hb.pass 37 109 rfl ?_
                refine Hb.pass 38 110 rfl ?_
                refine Hb.pass 39 111 rfl ?_
                refine Hb.pass 40 112 rfl ?_
                refine Hb.pass 41 113 rfl ?_
                refine Hb.take (v := Value.bool true) 42 114 rfl ?_ (fun _ _ => rfl)
                refine Hb.take (v := Value.bool true) 43 15 rfl ?_ (fun _ _ => rfl)
                refine Hb.done ?_
-- END
                go_wp2_with fail
                go_roundw
                case rel => exact ⟨j + 1, true, by omega, by go_num, rfl, Lib.hid (by rw [HC.out, HV2.out]; rfl), Lib.hid J1.out.drew, Lib.hid B1.out.drew⟩
                case measure => simp [intOf]; omega
            · obtain rfl : j = r := by omega
              have HV3 := Lib.hid (show (((l.take (k + 1)).map (·.2)).all (fun e => cs.any fun x => mt x e)) = (v && v') by
                rw [all_stepJ _ HT.out, HV.out, ← HV2.out, List.take_of_length_le (by rw [LR.out]; exact Nat.le_refl _)])
              clear HV HV2
              cases v
              · go_wp2_with fail
                go_roundw
                case rel => exact ⟨k + 1, u', false, by omega, by go_num, rfl, rfl, HU3, HV3, J, BL⟩
                case measure => simp [intOf]; omega
              · go_wp2_with fail
                go_roundw
                case rel => exact ⟨k + 1, u', v', by omega, by go_num, rfl, rfl, HU3, Lib.hid (by rw [HV3.out]; rfl), J, BL⟩
                case measure => simp [intOf]; omega
    · obtain rfl : p = i := by omega
      have GU := Lib.hid (show once (l.map (·.2)) = u by rw [once_ap, List.length_map, LP.out]; exact HU.out)
      have GV := Lib.hid (show cast (l.map (·.2)) cs = v by have := HV.out; rwa [List.take_of_length_le (by rw [LP.out]; exact Nat.le_refl _)] at this)
      obtain ⟨g, hg⟩ : ∃ g, pfx l m = g := ⟨_, rfl⟩
      have GP := Lib.hid hg
      have GQ := Lib.hid (show PEnt.eqL ((firm l).take K) ((firm m).take K) = g by rw [← hg, ← HK.out]; rfl)
      clear hg
      obtain ⟨AX, cX, runX, rX⟩ := cut_any (P := Try.prog) (w := wr.drew) 23 30 Try.underlying23 ent_info J.out.drew.x none (some (.int .i64 K)) 0 K 0 K (Or.inl ⟨rfl, rfl⟩) (Or.inr ⟨rfl, rfl⟩) (Nat.zero_le _) (by have := HK.out; omega)
      obtain ⟨AY, cY, runY, rY⟩ := cut_any (P := Try.prog) (w := wr.drew) 23 30 Try.underlying23 ent_info J.out.drew.y none (some (.int .i64 K)) 0 K 0 K (Or.inl ⟨rfl, rfl⟩) (Or.inr ⟨rfl, rfl⟩) (Nat.zero_le _) (by have := HK.out; omega)
      have e5 : ∀ l : List Ent, ((els l).drop (0 * 7)).take ((K - 0) * 7) = els (l.take K) := fun l => by rw [Nat.zero_mul, List.drop_zero, Nat.sub_zero, els_take]
      rw [e5, Nat.sub_zero] at rX rY
      rw [Nat.sub_zero] at runX runY
      have RX := Lib.hid rX
      have RY := Lib.hid rY
      have RUNX := Lib.hid runX
      have RUNY := Lib.hid runY
      clear rX rY e5 runX runY
      go_wp2_with fail
-- REGION curfew/curfewlaw28.JudgeAll 22 jall22 6
      refine Hb.begin ?_
      refine Hb.take (v := .slice A3 p c3) 0 119 rfl ?_ (fun _ _ => rfl)
      refine Hb.take (v := .slice A6 (firm l).length c6) 2 121 rfl ?_ (fun _ _ => rfl)
      refine Hb.call (f := 13) (args := #[.slice A3 p c3]) 1 120 rfl ?_ (run_callf Try.func13 (by kernel_rfl) (by kernel_rfl) (by simp only [List.map_toArray, List.map_cons, List.map_nil]; rfl))
      refine (jFirm_c wr.drew _ A3 c3 p l J.out.drew.a (by omega)).mono ?_
      rintro e w6 ⟨A8, c8, rfl, o8, b6⟩
      have J6 := Lib.hid (J.out.drew.past b6)
      have R8 := Lib.hid (Rd.of_own o8)
      refine Hb.back b6 b6.size ?_
      refine Hb.call (f := 12) (args := #[.slice A8 (firm l).length c8, .slice A6 (firm l).length c6]) 3 122 rfl ?_ (run_callf Try.func12 (by kernel_rfl) (by kernel_rfl) (by simp only [List.map_toArray, List.map_cons, List.map_nil]; rfl))
      refine (EqAll_c w6 A8 A6 c8 (firm l).length c6 (firm l).length (firm l) (firm l) R8.out J6.out.x).mono ?_
      rw [eqL_refl]
      rintro e w7 ⟨rfl, b7'⟩
      have b7 := b6.trans (b7'.mono b6.size)
      have J7 := Lib.hid (J6.out.past b7')
      refine Hb.back b7' b7'.size ?_
      refine Hb.take (v := .bool true) 4 123 rfl ?_ (fun _ _ => rfl)
      refine Hb.take (v := .slice A3 p c3) 5 124 rfl ?_ (fun _ _ => rfl)
      refine Hb.take (v := .slice A4 q c4) 6 125 rfl ?_ (fun _ _ => rfl)
      refine Hb.take (v := .slice A6 (firm l).length c6) 8 127 rfl ?_ (fun _ _ => rfl)
      refine Hb.take (v := .int .i64 (K : Int)) 9 128 rfl ?_ (fun _ _ => rfl)
      refine Hb.take (v := .slice AX K cX) 10 129 rfl ?_ (fun w' hw' => by exact run_sliceOp (RUNX.out _))
      refine Hb.take (v := .slice A7 (firm m).length c7) 11 130 rfl ?_ (fun _ _ => rfl)
      refine Hb.take (v := .int .i64 (K : Int)) 12 131 rfl ?_ (fun _ _ => rfl)
      refine Hb.take (v := .slice AY K cY) 13 132 rfl ?_ (fun w' hw' => by exact run_sliceOp (RUNY.out _))
      refine Hb.call (f := 14) (args := #[.slice A3 p c3, .slice A4 q c4]) 7 126 rfl ?_ (run_callf Try.func14 (by kernel_rfl) (by kernel_rfl) (by simp only [List.map_toArray, List.map_cons, List.map_nil]; rfl))
      refine (jPrefix_c w7 _ _ A3 A4 c3 c4 p q l m J7.out.a J7.out.b (by omega) (by omega)).mono ?_
      rw [GP.out]
      rintro e w8 ⟨rfl, b8'⟩
      have b8 := b7.trans (b8'.mono b7.size)
      have J8 := Lib.hid (J7.out.past b8')
      have X8 := Lib.hid (RX.out.past b8).tight
      have Y8 := Lib.hid (RY.out.past b8).tight
      refine Hb.back b8' b8'.size ?_
      refine Hb.call (f := 12) (args := #[.slice AX K cX, .slice AY K cY]) 14 133 rfl ?_ (run_callf Try.func12 (by kernel_rfl) (by kernel_rfl) (by simp only [List.map_toArray, List.map_cons, List.map_nil]; rfl))
      refine (EqAll_c w8 AX AY cX K cY K _ _ X8.out Y8.out).mono ?_
      rw [GQ.out]
      rintro e w9 ⟨rfl, b9'⟩
      have b9 := b8.trans (b9'.mono b8.size)
      have J9 := Lib.hid (J8.out.past b9')
      refine Hb.back b9' b9'.size ?_
      refine Hb.take (v := .bool true) 15 134 rfl ?_ (fun w' hw' => by go_simp; first | done | rfl | omega | exact wrap_in (by omega) (by omega) | exact Int.tmod_eq_emod_of_nonneg (by omega) | exact Int.tdiv_eq_ediv_of_nonneg (by omega) | (simp; omega))
      refine Hb.take (v := .bool true) 16 135 rfl ?_ (fun _ _ => rfl)
      refine Hb.take (v := .bool true) 17 136 rfl ?_ (fun _ _ => rfl)
      refine Hb.take (v := .slice A3 p c3) 18 137 rfl ?_ (fun _ _ => rfl)
      refine Hb.take (v := .bool u) 20 139 rfl ?_ (fun _ _ => rfl)
      refine Hb.call (f := 15) (args := #[.slice A3 p c3]) 19 138 rfl ?_ (run_callf Try.func15 (by kernel_rfl) (by kernel_rfl) (by simp only [List.map_toArray, List.map_cons, List.map_nil]; rfl))
      refine (jOnce_c w9 _ A3 c3 p l J9.out.a (by omega) OKL.out).mono ?_
      rw [GU.out]
      rintro e w10 ⟨rfl, b10'⟩
      have b10 := b9.trans (b10'.mono b9.size)
      have J10 := Lib.hid (J9.out.past b10')
      refine Hb.back b10' b10'.size ?_
      refine Hb.take (v := .bool true) 21 140 rfl ?_ (fun w' hw' => by go_simp; first | done | rfl | omega | exact wrap_in (by omega) (by omega) | exact Int.tmod_eq_emod_of_nonneg (by omega) | exact Int.tdiv_eq_ediv_of_nonneg (by omega) | (simp; omega))
      refine Hb.take (v := .bool true) 22 141 rfl ?_ (fun _ _ => rfl)
      refine Hb.take (v := .bool true) 23 142 rfl ?_ (fun _ _ => rfl)
      refine Hb.take (v := .slice A3 p c3) 24 143 rfl ?_ (fun _ _ => rfl)
      refine Hb.take (v := .slice A5 r c5) 25 144 rfl ?_ (fun _ _ => rfl)
      refine Hb.take (v := .bool v) 27 146 rfl ?_ (fun _ _ => rfl)
      refine Hb.call (f := 16) (args := #[.slice A3 p c3, .slice A5 r c5]) 26 145 rfl ?_ (run_callf Try.func16 (by kernel_rfl) (by kernel_rfl) (by simp only [List.map_toArray, List.map_cons, List.map_nil]; rfl))
      refine (jCast_c w10 _ _ A3 A5 c3 c5 p r l cs J10.out.a J10.out.c (by omega) (by omega) OKL.out OKC.out).mono ?_
      rw [GV.out]
      rintro e w11 ⟨rfl, b11'⟩
      have b11 := b10.trans (b11'.mono b10.size)
      refine Hb.back b11' b11'.size ?_
      refine Hb.take (v := .bool true) 28 147 rfl ?_ (fun w' hw' => by go_simp; first | done | rfl | omega | exact wrap_in (by omega) (by omega) | exact Int.tmod_eq_emod_of_nonneg (by omega) | exact Int.tdiv_eq_ediv_of_nonneg (by omega) | (simp; omega))
      refine Hb.take (v := .bool true) 29 148 rfl ?_ (fun _ _ => rfl)
      refine Hb.take (v := .bool true) 30 6 rfl ?_ (fun _ _ => rfl)
      refine Hb.done ?_
-- END
      go_wp2_with fail
      go_ret
      exact ⟨rfl, BL.out.drew.trans (b11.mono BL.out.size)⟩
end Go.Proofs.Ytkpgijmpaklfgaa
