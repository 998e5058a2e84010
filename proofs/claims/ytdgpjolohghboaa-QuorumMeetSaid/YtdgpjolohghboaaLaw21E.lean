/- The walk of QuorumMeet. Made by gen21e.py. -/
import Derived.Test.YtdgpjolohghboaaQuoL
import Derived.Test.YtdgpjolohghboaaHeldT
import Derived.BigRegion
import Derived.Deep.CutRange
namespace Go.Proofs.Ytdgpjolohghboaa
open Go.RowKit PQuo

theorem row8 (H : List Int) {k : Nat} (hk : k < 7) (hl : H.length = 7) : (is (0 :: H))[k + 1]? = some (.int .i64 (H.getD k 0)) := by
  show (Value.int .i64 0 :: is H)[k + 1]? = _
  rw [List.getElem?_cons_succ, is_get H (by omega)]
theorem row8_set (H : List Int) (k : Nat) (v : Int) : (is (0 :: H)).set (k + 1) (.int .i64 v) = is (0 :: H.set k v) := by
  show (Value.int .i64 0 :: is H).set (k + 1) _ = Value.int .i64 0 :: is (H.set k v)
  rw [List.set_cons_succ, is_set]
/-- A law's quorum, the team's list, an array by process. -/
structure Gq (w0 w : World) (g gG : Nat) (n x : Int) (m : Nat) (H P : List Int) (G : List Int) (bL cL : Nat) : Prop where
  s : Sq w0 w g n x m H P 0
  r : Blk w gG 29 (is (0 :: G))
  lo : w0.heap.size ≤ gG
  l : Ow w 0 3 1 (some ⟨bL, 0, none⟩) (PTeam.cnt m) cL (is (PTeam.lst m))
section
variable {w0 w w' : World} {g gG : Nat} {n x : Int} {m : Nat} {H P H' P' : List Int} {G : List Int} {bL cL : Nat}
theorem Gq.past (h : Gq w0 w g gG n x m H P G bL cL) (t : Below w.heap.size w w') : Gq w0 w' g gG n x m H P G bL cL := ⟨h.s.past t, h.r.past t, h.lo, h.l.past t⟩
theorem Gq.drew (h : Gq w0 w g gG n x m H P G bL cL) : Gq w0 w.drew g gG n x m H P G bL cL := h.past (Below.refl _ _).drew
theorem Gq.apart (h : Gq w0 w g gG n x m H P G bL cL) : gG ≠ g := h.r.ne h.s.q (by decide)
theorem Gq.go (h : Gq w0 w g gG n x m H P G bL cL) (s : Sq w0 w' g n x m H' P' 0) (t : Touch [g] w w') : Gq w0 w' g gG n x m H' P' G bL cL :=
  ⟨s, h.r.touch t (by simpa using h.apart), h.lo, h.l.touch t (fun k hk => by rw [List.mem_singleton.1 hk]; exact h.l.ne h.s.q (by decide))⟩
theorem Gq.put (h : Gq w0 w g gG n x m H P G bL cL) (k : Nat) (v : Int) : Gq w0 (w.setCell ⟨gG, k + 1, none⟩ (.int .i64 v)).drew g gG n x m H P (G.set k v) bL cL := by
  have t : Touch [gG] w (w.setCell ⟨gG, k + 1, none⟩ (.int .i64 v)).drew := ((Touch.refl [gG] w).cell (List.mem_singleton.2 rfl) _ _).drew
  refine ⟨h.s.far t (by simpa using h.lo) (by simpa using h.apart.symm), ?_, h.lo, h.l.touch t (fun s hs => by rw [List.mem_singleton.1 hs]; exact h.l.ne h.r (by decide))⟩
  have := h.r.set (k + 1) (.int .i64 v)
  rw [row8_set] at this
  exact this
theorem Gq.seen (h : Gq w0 w g gG n x m H P G bL cL) {i k : Nat} (hi : i < PTeam.cnt m) (hk : k < 7) (hl : G.length = 7) (t : Touch [g] w w') :
    w'.cell? ⟨bL, i, none⟩ = some (.int .i64 ((PTeam.lst m).getD i 0)) ∧ w'.cell? ⟨gG, k + 1, none⟩ = some (.int .i64 (G.getD k 0)) := by
  have l1 := h.l.touch t (fun s hs => by rw [List.mem_singleton.1 hs]; exact h.l.ne h.s.q (by decide))
  have r1 := h.r.touch t (by simpa using h.apart)
  exact ⟨(l1.cell rfl (is_get _ (by rw [PTeam.lst_length]; exact hi))).1, r1.cell (row8 G hk hl)⟩
end
theorem lst_find {m : Nat} (hm : m < 128) {id : Int} (h : PTeam.has m id = true) : ∃ j, j < PTeam.cnt m ∧ (PTeam.lst m).getD j 0 = id := by
  obtain ⟨j, hj, e⟩ := List.getElem_of_mem ((PTeam.lst_mem m hm id).2 h)
  exact ⟨j, by rw [← PTeam.lst_length]; exact hj, by rw [← e]; exact (getD_of hj).symm⟩
set_option maxHeartbeats 8000000 in
set_option maxRecDepth 100000 in
theorem QuorumMeet_bad (w : World) (n a b : Int) (A : Option Addr) (cA len : Nat) (h : PTeam.most a n = false ∨ (PTeam.most a n = true ∧ PTeam.most b n = false)) :
    Calls Try.prog 8 #[.int .i64 n, .int .i64 a, .int .i64 b, .slice A len cA] w fun e w' => e = .returned (.bool true) ∧ Below w.heap.size w w' := by
  rcases h with ha | ⟨ha, hb⟩
  · have HA := Lib.hid ha
    clear ha
    go_enter Try.func8, Try.ntmps8
    go_wp2_with fail
    refine (begunQ_c w).mono ?_
    rintro e w1 ⟨rfl, b1⟩
    go_wp2_with fail
    refine (rtMost_c w1 a n).mono ?_
    rw [HA.out]
    rintro e w2 ⟨rfl, b2⟩
    have B2 := Lib.hid (b1.trans (b2.mono b1.size))
    clear b1 b2
    go_wp2_with fail
    go_ret
    exact ⟨rfl, B2.out⟩
  · have HA := Lib.hid ha
    have HB := Lib.hid hb
    clear ha hb
    go_enter Try.func8, Try.ntmps8
    go_wp2_with fail
    refine (begunQ_c w).mono ?_
    rintro e w1 ⟨rfl, b1⟩
    go_wp2_with fail
    refine (rtMost_c w1 a n).mono ?_
    rw [HA.out]
    rintro e w2 ⟨rfl, b2⟩
    have B2 := Lib.hid (b1.trans (b2.mono b1.size))
    clear b1 b2
    go_wp2_with fail
    refine (rtMost_c w2 b n).mono ?_
    rw [HB.out]
    rintro e w3 ⟨rfl, b3⟩
    have B3 := Lib.hid (B2.out.trans (b3.mono B2.out.size))
    clear b3 B2
    go_wp2_with fail
    go_ret
    exact ⟨rfl, B3.out⟩
set_option maxHeartbeats 8000000 in
set_option maxRecDepth 100000 in
theorem QuorumMeet_ok (w : World) (n : Int) (ma mb : Nat) (A : Option Addr) (cA len : Nat) (xs : List Int) (h0 : Rd w w.heap.size A cA 1 len (is xs)) (ha : PTeam.most ma n = true) (hb : PTeam.most mb n = true) :
    Calls Try.prog 8 #[.int .i64 n, .int .i64 (ma : Int), .int .i64 (mb : Int), .slice A len cA] w fun e w' => e = .returned (.bool true) ∧ Below w.heap.size w w' := by
  have HR := Lib.hid h0
  have hlen : len ≤ 9223372036854775807 := by have := h0.le; have := h0.cap; unfold maxLen at this; omega
  clear h0
  obtain ⟨h3, h7, hltA, _⟩ := most_in ha
  obtain ⟨_, _, hltB, _⟩ := most_in hb
  obtain ⟨hc0, hme⟩ := lst_head ha
  obtain ⟨hd0, _⟩ := lst_head hb
  have hc7 := PTeam.cnt_le ma
  have hd7 := PTeam.cnt_le mb
  have HA := Lib.hid ha
  have HB := Lib.hid hb
  clear ha hb h3 h7
  go_enter Try.func8, Try.ntmps8
  go_wp2_with fail
  refine (begunQ_c w).mono ?_
  rintro e w1 ⟨rfl, b1⟩
  go_wp2_with fail
  refine (rtMost_c w1 ma n).mono ?_
  rw [HA.out]
  rintro e w2 ⟨rfl, b2⟩
  have B2 := Lib.hid (b1.trans (b2.mono b1.size))
  clear b1 b2
  go_wp2_with fail
  refine (rtMost_c w2 mb n).mono ?_
  rw [HB.out]
  rintro e w3 ⟨rfl, b3⟩
  have B3 := Lib.hid (B2.out.trans (b3.mono B2.out.size))
  clear b3 B2
  go_wp2_with fail
  refine (rtList_c w3 ma hltA).mono ?_
  rintro e w4 ⟨AL, cL, rfl, hown, b4⟩
  have B4 := Lib.hid (B3.out.trans (b4.mono B3.out.size))
  have OL := Lib.hid ((Ow.of_own hown).down (Nat.zero_le _))
  obtain ⟨bL, rfl, _, _⟩ := OL.out.some hc0
  have hcx := (OL.out.cell rfl (is_get _ (by rw [PTeam.lst_length]; exact hc0))).1
  obtain ⟨x, hx⟩ : ∃ x, (PTeam.lst ma).getD 0 0 = x := ⟨_, rfl⟩
  rw [hx] at hcx hme
  have HME := Lib.hid hme
  clear hx hown b4 hme B3
  go_wp2_with fail
  refine (qnew_yes w4 n x ma HA.out HME.out).mono ?_
  rintro e w5 ⟨rfl, q5, k5, b5⟩
  have S5 := Lib.hid (Sq.new B4.out q5 k5 b5)
  have O5 := Lib.hid (OL.out.past b5)
  clear q5 k5 b5 hcx B4 OL
  generalize w4.heap.size = g at *
  have M6 := Lib.hid (show Gq w (w5.alloc (.cells #[.int .i64 0, .int .i64 0, .int .i64 0, .int .i64 0, .int .i64 0, .int .i64 0, .int .i64 0, .int .i64 0] 29)) g w5.heap.size n x ma none7 none7 none7 bL cL from
    ⟨S5.out.alloc _, Blk.new w5 _ _, S5.out.bel.size, O5.out.past ((Below.refl _ _).alloc (Nat.le_refl _) _)⟩)
  clear S5 O5
  go_wp2_with fail
  generalize w5.alloc (.cells #[.int .i64 0, .int .i64 0, .int .i64 0, .int .i64 0, .int .i64 0, .int .i64 0, .int .i64 0, .int .i64 0] 29) = w6 at *
  generalize w5.heap.size = gG at *
  have HZ0 := Lib.hid (show ∀ j, 0 ≤ j → j < PTeam.cnt ma → (vals ma none7).getD j 0 = 0 from fun j _ hj => by
    rw [vals_none ma hltA, List.getD_eq_getElem?_getD, List.getElem?_replicate]; split <;> rfl)
  go_loopw [13] (fun s13 wr => ∃ (i : Nat) (H P : List Int), i ≤ PTeam.cnt ma ∧ s13 = .int .i64 i ∧ Hid (Gq w wr g gG n x ma H P H bL cL) ∧ Hid (∀ j, i ≤ j → j < PTeam.cnt ma → (vals ma H).getD j 0 = 0)) (fun s13 _ => PTeam.cnt ma - (intOf s13).toNat)
  case atStart => exact ⟨0, none7, none7, by omega, rfl, M6, HZ0⟩
  case round =>
    clear M6 HZ0
    obtain ⟨i, H, P, him, rfl, MR, HZR⟩ := hrel
    go_upto_region 10 with fail
    go_cut [46] from 37 to 46 (fun s46 wx => s46 = .bool (decide (i < PTeam.cnt ma ∧ i < len)) ∧ wr = wx)
    case first =>
      by_cases c1 : i < PTeam.cnt ma
      · have j1 : (i : Int) < (PTeam.cnt ma : Int) := by omega
        by_cases c2 : i < len
        · have j2 : (i : Int) < (len : Int) := by omega
          go_wp2_with fail
          go_meet
          case rel => exact ⟨by rw [decide_eq_true ⟨c1, c2⟩], rfl⟩
        · have j2 : ¬ (i : Int) < (len : Int) := by omega
          go_wp2_with fail
          go_meet
          case rel => exact ⟨by rw [decide_eq_false (fun h => c2 h.2)], rfl⟩
      · have j1 : ¬ (i : Int) < (PTeam.cnt ma : Int) := by omega
        go_wp2_with fail
        go_meet
        case rel => exact ⟨by rw [decide_eq_false (fun h => c1 h.1)], rfl⟩
    case rest =>
      obtain ⟨rfl, rfl⟩ := hcut
      by_cases hc : i < PTeam.cnt ma ∧ i < len
      · rw [decide_eq_true hc]
        obtain ⟨hi', hl'⟩ := hc
        obtain ⟨bA, oA, y, rfl, hcA, -, hy⟩ := (HR.out.below MR.out.s.bel).int hl'
        clear hy
        obtain ⟨v, r, v0, v61, hr1, ra, rb, hr2⟩ := tmod_inQ y (n := 61) (by omega)
        obtain ⟨id, hid⟩ : ∃ id, (PTeam.lst ma).getD i 0 = id := ⟨_, rfl⟩
        have hhas : PTeam.has ma id = true := by rw [← hid]; exact lst_at hltA hi'
        obtain ⟨_, _, hk7, hpl⟩ := pl_in hltA hhas
        have h0i := HZR.out i (Nat.le_refl _) hi'
        have HOK := Lib.hid (show okA ma id v = true by unfold okA; rw [hhas, decide_eq_true (show 0 ≤ v ∧ v ≤ 60 by omega)]; rfl)
        rw [vals_at _ hi', hid] at h0i
        have EA := Lib.hid (show aH ma H id v = H.set (pl id) v from aH_zero HOK.out h0i v0)
        have EV := Lib.hid (show vals ma (aH ma H id v) = (vals ma H).set i v by
          rw [EA.out, ← hid, vals_set hltA MR.out.s.k.h.len hi'])
        have HZ2 := Lib.hid (show ∀ j, i + 1 ≤ j → j < PTeam.cnt ma → (vals ma (aH ma H id v)).getD j 0 = 0 from fun j h1 h2 => by
          rw [EV.out, getD_set _ _ _ _ (by rw [vals_len]; exact hi'), if_neg (by omega)]
          exact HZR.out j (by omega) h2)
        have HID := Lib.hid hid
        have HLH := Lib.hid MR.out.s.k.h.len
        clear hid hhas h0i EV HOK
        generalize pl id = k at *
        subst hpl
        have M6 := Lib.hid (MR.out.put k v)
        have LL := Lib.hid (show ∀ w', Touch [g] (wr.setCell ⟨gG, k + 1, none⟩ (.int .i64 v)).drew w' → w'.cell? ⟨bL, i, none⟩ = some (.int .i64 ((k : Int) + 1)) ∧ w'.cell? ⟨gG, k + 1, none⟩ = some (.int .i64 v) from fun w' t => by
          have := M6.out.seen hi' hk7 (by rw [List.length_set]; exact HLH.out) t
          rw [HID.out, getD_set _ _ _ _ (by rw [HLH.out]; exact hk7), if_pos rfl] at this
          exact this)
        have cL1 := (MR.out.l.cell rfl (is_get _ (by rw [PTeam.lst_length]; exact hi'))).1
        rw [HID.out] at cL1
        have cW := MR.out.r.cell (row8 H hk7 HLH.out)
        have fW := MR.out.r.free (k + 1)
        have jm : (i : Int) < (PTeam.cnt ma : Int) := by omega
        go_wp2_with fail
        go_big_region
        clear cW fW hcA cL1
        have M6 := Lib.hid (M6.out)
        generalize (wr.setCell ⟨gG, k + 1, none⟩ (.int .i64 v)).drew = w6 at *
        have M6 := Lib.hid M6.out.drew
        have LL := Lib.hid (show ∀ w', Touch [g] w6.drew w' → w'.cell? ⟨bL, i, none⟩ = some (.int .i64 ((k : Int) + 1)) ∧ w'.cell? ⟨gG, k + 1, none⟩ = some (.int .i64 v) from fun w' t => LL.out w' ⟨t.os, t.tape, t.output, t.size, t.block⟩)
        go_wp2_with fail
-- REGION curfew/curfewlaw21.QuorumMeet 13 qmeet13 8
        refine Hs.begin ([g]) ?_
        refine Hs.take (v := .pointer (some ⟨g, 0, none⟩)) 0 61 rfl ?_ (fun _ _ => rfl)
        refine Hs.take (v := .slice (some ⟨bL, 0, none⟩) (PTeam.cnt ma) cL) 1 62 rfl ?_ (fun _ _ => rfl)
        refine Hs.take (v := .int .i64 (i : Int)) 2 63 rfl ?_ (fun _ _ => rfl)
        refine Hs.take (v := .pointer (some ⟨bL, i, none⟩)) 3 64 rfl ?_ (fun w' hw' => by go_simp)
        refine Hs.take (v := .int .i64 ((k : Int) + 1)) 4 65 rfl ?_ (fun w' hw' => by have cc := (LL.out w' hw').1; go_simp)
        refine Hs.take (v := .slice (some ⟨bL, 0, none⟩) (PTeam.cnt ma) cL) 5 66 rfl ?_ (fun _ _ => rfl)
        refine Hs.take (v := .int .i64 (i : Int)) 6 67 rfl ?_ (fun _ _ => rfl)
        refine Hs.take (v := .pointer (some ⟨bL, i, none⟩)) 7 68 rfl ?_ (fun w' hw' => by go_simp)
        refine Hs.take (v := .int .i64 ((k : Int) + 1)) 8 69 rfl ?_ (fun w' hw' => by have cc := (LL.out w' hw').1; go_simp)
        refine Hs.take (v := .pointer (some ⟨gG, k + 1, none⟩)) 9 70 rfl ?_ (fun w' hw' => by go_simp; intro hh; have := hh (by omega); omega)
        refine Hs.take (v := .int .i64 v) 10 71 rfl ?_ (fun w' hw' => by have cc := (LL.out w' hw').2; go_simp)
        refine Hs.call (f := 13) (args := #[.pointer (some ⟨g, 0, none⟩), .int .i64 ((k : Int) + 1), .int .i64 v, .int .i64 0]) 11 72 rfl ?_ (run_callf Try.func13 (by kernel_rfl) (by kernel_rfl) (by simp only [List.map_toArray, List.map_cons, List.map_nil]; rfl))
        refine (M6.out.s.ack ((k : Int) + 1) v 0).mono ?_
        rintro e w7 ⟨rfl, s7, t7⟩
        have M8 := Lib.hid (M6.out.go s7 t7)
        refine Hs.back t7 ?_
        refine Hs.done ?_
-- END
        rw [← EA.out] at M8
        go_wp2_with fail
        go_roundw
        case rel => exact ⟨i + 1, _, _, by omega, by go_num, M8, HZ2⟩
        case measure => simp [intOf]; omega
      · rw [decide_eq_false hc]
        clear hc HZR him
        obtain ⟨r, hr⟩ : ∃ r, dbest ma n H 7 = r := ⟨_, rfl⟩
        have HRR := Lib.hid (show IsR H n r from hr ▸ dbest_isR MR.out.s.k.h HA.out)
        have HMEET := Lib.hid (meet MR.out.s.k.h HA.out HB.out HRR.out)
        have HL7 := Lib.hid MR.out.s.k.h.len
        clear hr
        go_wp2_with fail
        refine (rtList_c wr mb hltB).mono ?_
        rintro e w8 ⟨AM, cM, rfl, hown, b8⟩
        have O8 := Lib.hid ((Ow.of_own hown).down (Nat.zero_le _))
        obtain ⟨bM, rfl, _, _⟩ := O8.out.some hd0
        have M8 := Lib.hid (MR.out.past b8)
        clear hown b8 MR
        have HNO := Lib.hid (show ∀ j, j < 0 → ¬ (PTeam.has ma ((PTeam.lst mb).getD j 0) = true ∧ r ≤ H.getD (pl ((PTeam.lst mb).getD j 0)) 0) from fun j hj => absurd hj (by omega))
        go_wp2_with fail
        go_loopw [15] (fun s15 wr => ∃ i : Nat, i ≤ PTeam.cnt mb ∧ s15 = .int .i64 i ∧ Hid (Gq w wr g gG n x ma H P H bL cL) ∧ Hid (Ow wr 0 3 1 (some ⟨bM, 0, none⟩) (PTeam.cnt mb) cM (is (PTeam.lst mb))) ∧ Hid (∀ j, j < i → ¬ (PTeam.has ma ((PTeam.lst mb).getD j 0) = true ∧ r ≤ H.getD (pl ((PTeam.lst mb).getD j 0)) 0))) (fun s15 _ => PTeam.cnt mb - (intOf s15).toNat)
        case atStart => exact ⟨0, by omega, rfl, M8, O8, HNO⟩
        case round =>
          clear M8 O8 HNO
          obtain ⟨i, hib, rfl, MR, OR, HNO⟩ := hrel
          by_cases hi' : i < PTeam.cnt mb
          · have jm : (i : Int) < (PTeam.cnt mb : Int) := by omega
            have HLB := Lib.hid (show i < (PTeam.lst mb).length by rw [PTeam.lst_length]; exact hi')
            obtain ⟨id, hid⟩ : ∃ id, (PTeam.lst mb).getD i 0 = id := ⟨_, rfl⟩
            have hhas : PTeam.has mb id = true := by rw [← hid]; exact lst_at hltB hi'
            obtain ⟨_, _, hk7, hpl⟩ := pl_in hltB hhas
            have HPL := Lib.hid (show pl id = pl id from rfl)
            obtain ⟨k, hk⟩ : ∃ k, pl id = k := ⟨_, rfl⟩
            rw [hk] at hk7 hpl
            have HK := Lib.hid hk
            clear hk HPL
            subst hpl
            have HID := Lib.hid hid
            have HK7 := Lib.hid hk7
            clear hid hhas
            have step : ∀ h : ¬ (PTeam.has ma ((k : Int) + 1) = true ∧ r ≤ H.getD k 0), Hid (∀ j, j < i + 1 → ¬ (PTeam.has ma ((PTeam.lst mb).getD j 0) = true ∧ r ≤ H.getD (pl ((PTeam.lst mb).getD j 0)) 0)) := fun h => Lib.hid fun j hj => by
              rcases (by omega : j < i ∨ j = i) with e | rfl
              · exact HNO.out j e
              · rw [HID.out, HK.out]; exact h
            have STEP := Lib.hid step
            clear step
            cases hb : PTeam.has ma ((k : Int) + 1)
            · have HB := Lib.hid hb
              have HN2 := STEP.out (fun h => by rw [hb] at h; cases h.1)
              clear hb
              go_wp2_with fail
-- REGION curfew/curfewlaw21.QuorumMeet 18 qmeet18f 14
              refine Hb.begin ?_
              refine Hb.take (v := .int .i64 (ma : Int)) 0 81 rfl ?_ (fun _ _ => rfl)
              refine Hb.take (v := .slice (some ⟨bM, 0, none⟩) (PTeam.cnt mb) cM) 1 82 rfl ?_ (fun _ _ => rfl)
              refine Hb.take (v := .int .i64 (i : Int)) 2 83 rfl ?_ (fun _ _ => rfl)
              refine Hb.take (v := .pointer (some ⟨bM, i, none⟩)) 3 84 rfl ?_ (fun w' hw' => by go_simp)
              refine Hb.take (v := .int .i64 ((k : Int) + 1)) 4 85 rfl ?_ (fun w' hw' => by have cc := (((show Ow wr.drew 0 3 1 (some ⟨bM, 0, none⟩) (PTeam.cnt mb) cM (is (PTeam.lst mb)) from OR.out).past hw').cell rfl (is_get _ HLB.out)).1; rw [HID.out] at cc; go_simp)
              refine Hb.call (f := 12) (args := #[.int .i64 (ma : Int), .int .i64 ((k : Int) + 1)]) 5 86 rfl ?_ (run_callf Try.func12 (by kernel_rfl) (by kernel_rfl) (by simp only [List.map_toArray, List.map_cons, List.map_nil]; rfl))
              refine (rtHas_c _ ma _ hltA).mono ?_
              rw [HB.out]
              rintro e w2 ⟨rfl, b2⟩
              have M2 := Lib.hid (MR.out.drew.past b2)
              have O2 := Lib.hid ((show Ow wr.drew 0 3 1 (some ⟨bM, 0, none⟩) (PTeam.cnt mb) cM (is (PTeam.lst mb)) from OR.out).past b2)
              refine Hb.back b2 (Nat.le_refl _) ?_
              refine Hb.take (v := .bool false) 6 87 rfl ?_ (fun _ _ => rfl)
              refine Hb.pass 7 88 rfl ?_
              refine Hb.pass 8 89 rfl ?_
              refine Hb.pass 9 90 rfl ?_
              refine Hb.pass 10 91 rfl ?_
              refine Hb.pass 11 92 rfl ?_
              refine Hb.pass 12 93 rfl ?_
              refine Hb.pass 13 94 rfl ?_
              refine Hb.pass 14 95 rfl ?_
              refine Hb.pass 15 96 rfl ?_
              refine Hb.take (v := .bool false) 16 97 rfl ?_ (fun _ _ => rfl)
              refine Hb.done ?_
-- END
              go_wp2_with fail
              go_roundw
              case rel => exact ⟨i + 1, by omega, by go_num, M2, O2, HN2⟩
              case measure => simp [intOf]; omega
            · have HB := Lib.hid hb
              obtain ⟨y, hy⟩ : ∃ y, H.getD k 0 = y := ⟨_, rfl⟩
              obtain ⟨bb, hbb⟩ : ∃ bb, decide (r ≤ y) = bb := ⟨_, rfl⟩
              have HY := Lib.hid hy
              have HD := Lib.hid hbb
              clear hb hy hbb
              go_wp2_with fail
-- REGION curfew/curfewlaw21.QuorumMeet 18 qmeet18t 14
              refine Hb.begin ?_
              refine Hb.take (v := .int .i64 (ma : Int)) 0 81 rfl ?_ (fun _ _ => rfl)
              refine Hb.take (v := .slice (some ⟨bM, 0, none⟩) (PTeam.cnt mb) cM) 1 82 rfl ?_ (fun _ _ => rfl)
              refine Hb.take (v := .int .i64 (i : Int)) 2 83 rfl ?_ (fun _ _ => rfl)
              refine Hb.take (v := .pointer (some ⟨bM, i, none⟩)) 3 84 rfl ?_ (fun w' hw' => by go_simp)
              refine Hb.take (v := .int .i64 ((k : Int) + 1)) 4 85 rfl ?_ (fun w' hw' => by have cc := (((show Ow wr.drew 0 3 1 (some ⟨bM, 0, none⟩) (PTeam.cnt mb) cM (is (PTeam.lst mb)) from OR.out).past hw').cell rfl (is_get _ HLB.out)).1; rw [HID.out] at cc; go_simp)
              refine Hb.call (f := 12) (args := #[.int .i64 (ma : Int), .int .i64 ((k : Int) + 1)]) 5 86 rfl ?_ (run_callf Try.func12 (by kernel_rfl) (by kernel_rfl) (by simp only [List.map_toArray, List.map_cons, List.map_nil]; rfl))
              refine (rtHas_c _ ma _ hltA).mono ?_
              rw [HB.out]
              rintro e w2 ⟨rfl, b2⟩
              have M2 := Lib.hid (MR.out.drew.past b2)
              have O2 := Lib.hid ((show Ow wr.drew 0 3 1 (some ⟨bM, 0, none⟩) (PTeam.cnt mb) cM (is (PTeam.lst mb)) from OR.out).past b2)
              refine Hb.back b2 (Nat.le_refl _) ?_
              refine Hb.take (v := .bool true) 6 87 rfl ?_ (fun _ _ => rfl)
              refine Hb.take (v := .slice (some ⟨bM, 0, none⟩) (PTeam.cnt mb) cM) 7 88 rfl ?_ (fun _ _ => rfl)
              refine Hb.take (v := .int .i64 (i : Int)) 8 89 rfl ?_ (fun _ _ => rfl)
              refine Hb.take (v := .pointer (some ⟨bM, i, none⟩)) 9 90 rfl ?_ (fun w' hw' => by go_simp)
              refine Hb.take (v := .int .i64 ((k : Int) + 1)) 10 91 rfl ?_ (fun w' hw' => by have cc := (((show Ow wr.drew 0 3 1 (some ⟨bM, 0, none⟩) (PTeam.cnt mb) cM (is (PTeam.lst mb)) from OR.out).past (b2.trans hw')).cell rfl (is_get _ HLB.out)).1; rw [HID.out] at cc; go_simp)
              refine Hb.take (v := .pointer (some ⟨gG, k + 1, none⟩)) 11 92 rfl ?_ (fun w' hw' => by go_simp; intro hh; have := hh (by omega); omega)
              refine Hb.take (v := .int .i64 y) 12 93 rfl ?_ (fun w' hw' => by have cc := (MR.out.drew.r.past (b2.trans hw')).cell (row8 H HK7.out HL7.out); rw [HY.out] at cc; go_simp)
              refine Hb.take (v := .pointer (some ⟨g, 0, none⟩)) 13 94 rfl ?_ (fun _ _ => rfl)
              refine Hb.call (f := 17) (args := #[.pointer (some ⟨g, 0, none⟩)]) 14 95 rfl ?_ (run_callf Try.func17 (by kernel_rfl) (by kernel_rfl) (by simp only [List.map_toArray, List.map_cons, List.map_nil]; rfl))
              refine M2.out.s.commit.mono ?_
              rintro e w3 ⟨rr, rfl, hr, b3⟩
              obtain rfl : rr = r := uniq hr HRR.out
              have M3 := Lib.hid (M2.out.past b3)
              have O3 := Lib.hid (O2.out.past b3)
              refine Hb.back (b3.mono b2.size) (Nat.le_refl _) ?_
              refine Hb.take (v := .bool bb) 15 96 rfl ?_ (fun w' hw' => by go_simp; exact HD.out)
              refine Hb.take (v := .bool bb) 16 97 rfl ?_ (fun _ _ => rfl)
              refine Hb.done ?_
-- END
              cases bb
              · have HN2 := STEP.out (fun h => by rw [HY.out] at h; exact of_decide_eq_false HD.out h.2)
                go_wp2_with fail
                go_roundw
                case rel => exact ⟨i + 1, by omega, by go_num, M3, O3, HN2⟩
                case measure => simp [intOf]; omega
              · go_wp2_with fail
                go_ret
                exact ⟨rfl, M3.out.s.bel⟩
          · exfalso
            obtain ⟨k, hk7, h1, h2, h3⟩ := HMEET.out
            obtain ⟨j, hj, e⟩ := lst_find hltB h2
            refine HNO.out j (by omega) ?_
            rw [e, show pl ((k : Int) + 1) = k by unfold pl; omega]
            exact ⟨h1, h3⟩
theorem QuorumMeet_w (w : World) (n a b : Int) (A : Option Addr) (cA len : Nat) (xs : List Int) (h0 : Rd w w.heap.size A cA 1 len (is xs)) :
    Calls Try.prog 8 #[.int .i64 n, .int .i64 a, .int .i64 b, .slice A len cA] w fun e w' => e = .returned (.bool true) ∧ Below w.heap.size w w' := by
  have pos : ∀ t : Int, PTeam.most t n = true → 0 ≤ t := fun t hm => by
    unfold PTeam.most PTeam.may at hm
    simp only [Bool.and_eq_true, decide_eq_true_eq] at hm
    exact hm.1.2.1
  cases ha : PTeam.most a n
  · exact QuorumMeet_bad w n a b A cA len (.inl ha)
  · cases hb : PTeam.most b n
    · exact QuorumMeet_bad w n a b A cA len (.inr ⟨ha, hb⟩)
    · obtain ⟨ma, rfl⟩ := Int.eq_ofNat_of_zero_le (pos a ha)
      obtain ⟨mb, rfl⟩ := Int.eq_ofNat_of_zero_le (pos b hb)
      exact QuorumMeet_ok w n ma mb A cA len xs h0 ha hb
end Go.Proofs.Ytdgpjolohghboaa
