/- Contract of Add. -/
import Derived.Test.YtacipjdaiglnjaaGreatDoorSeg5
import Derived.Test.YtacipjdaiglnjaaGreatDoorSeg4
namespace Go.Proofs.YtacipjdaiglnjaaGreatDoor
open Go.RowKit PVote

set_option maxHeartbeats 4000000 in
set_option maxRecDepth 100000 in
theorem vadd_far (w : World) (g : Nat) (F : List Nat) (view n : Int) (S : List (Option Vt)) (h : Vs w g F view n S) (v : Vt) (A : Option Addr) (c : Nat)
    (hb : (decide (1 ≤ v.fr ∧ v.fr ≤ n) && !PTeam.has (tm S) v.fr) = false ∨ v.last < 0 ∨ view ≤ v.last) :
    Calls Tryz.prog 94 #[.pointer (some ⟨g, 0, none⟩), vv v A c] w fun e w' => e = .returned (.bool false) ∧ Below w.heap.size w w' := by
  obtain ⟨fr, last, es, com⟩ := v
  have B1 := Lib.hid ((Below.refl w.heap.size w).alloc (Nat.le_refl _) (.cells #[.int .i64 fr, .int .i64 last, .slice A es.length c, .int .i64 com] 160))
  have h1 := h.alloc (.cells #[.int .i64 fr, .int .i64 last, .slice A es.length c, .int .i64 com] 160)
  obtain ⟨q0, q1, q2⟩ := h1.head
  have k3 := Blk.new w #[.int .i64 fr, .int .i64 last, .slice A es.length c, .int .i64 com] 160
  have p0 := k3.cell (i := 0) rfl
  have p1 := k3.cell (i := 1) rfl
  obtain ⟨b, hbo⟩ : ∃ b, (decide (1 ≤ fr ∧ fr ≤ n) && !PTeam.has (tm S) fr) = b := ⟨_, rfl⟩
  have hI : ∀ q, Calls Tryz.prog 145 #[.pointer (some ⟨g, 0, none⟩), .int .i64 fr] ((w.alloc (.cells #[.int .i64 fr, .int .i64 last, .slice A es.length c, .int .i64 com] 160)).drewN q) fun e w' => e = .returned (.bool b) ∧ w' = (w.alloc (.cells #[.int .i64 fr, .int .i64 last, .slice A es.length c, .int .i64 com] 160)).drewN q := fun q => by
    rw [← hbo]
    exact (isOpen_c _ g F view n S (h1.drawn q) fr).mono fun e w' h => ⟨h.1, h.2.symm⟩
  replace hb : b = false ∨ last < 0 ∨ view ≤ last := by rw [← hbo]; exact hb
  clear hbo h h1 k3 q1 q2
  show Calls _ _ #[_, .agg #[.int .i64 fr, .int .i64 last, .slice A es.length c, .int .i64 com]] _ _
  have fin : ∀ q, Below w.heap.size w ((w.alloc (.cells #[.int .i64 fr, .int .i64 last, .slice A es.length c, .int .i64 com] 160)).drewN q) := fun q => B1.out.trans ⟨rfl, rfl, rfl, Nat.le_refl _, fun _ _ => rfl⟩
  have FIN := Lib.hid fin
  clear fin
  cases b with
  | false =>
    go_enter Tryz.func94, Tryz.ntmps94
    go_wp2_with fail
    go_quiet (first | (go_at_call 145; refine Calls.quiet_of_same (hI _)))
    go_wp2_with fail
    go_ret
    exact ⟨rfl, FIN.out _⟩
  | true =>
    by_cases g1 : last < 0
    · have d1 : decide (last < 0) = true := decide_eq_true g1
      clear hb
      go_enter Tryz.func94, Tryz.ntmps94
      go_wp2_with fail
      go_quiet (first | (go_at_call 145; refine Calls.quiet_of_same (hI _)))
      go_wp2_with fail
      go_ret
      exact ⟨rfl, FIN.out _⟩
    · have d1 : decide (last < 0) = false := decide_eq_false g1
      have g2 : view ≤ last := by rcases hb with hb | hb | hb; cases hb; exact absurd hb g1; exact hb
      have d2 : decide (last ≥ view) = true := decide_eq_true g2
      have d3 : decide (view ≤ last) = true := decide_eq_true g2
      clear hb
      go_enter Tryz.func94, Tryz.ntmps94
      go_wp2_with fail
      go_quiet (first | (go_at_call 145; refine Calls.quiet_of_same (hI _)))
      go_wp2_with fail
      go_ret
      exact ⟨rfl, FIN.out _⟩
-- SECOND PART
set_option maxHeartbeats 4000000 in
set_option maxRecDepth 100000 in
theorem vadd_log (w : World) (g : Nat) (F : List Nat) (view n : Int) (S : List (Option Vt)) (h : Vs w g F view n S) (v : Vt) (A : Option Addr) (c : Nat) (R : Rd w w.heap.size A c 7 v.es.length (els v.es))
    (hb : (decide (1 ≤ v.fr ∧ v.fr ≤ n) && !PTeam.has (tm S) v.fr) = true) (hl : 0 ≤ v.last ∧ v.last < view) (hn : isLog v.es = false) :
    Calls Tryz.prog 94 #[.pointer (some ⟨g, 0, none⟩), vv v A c] w fun e w' => e = .returned (.bool false) ∧ Below w.heap.size w w' := by
  have HLT := Lib.hid h.lt
  have HF := Lib.hid h.hi
  have HNL := Lib.hid (of_decide_eq_false hn)
  clear hn
  obtain ⟨fr, last, es, com⟩ := v
  have B1 := Lib.hid ((Below.refl w.heap.size w).alloc (Nat.le_refl _) (.cells #[.int .i64 fr, .int .i64 last, .slice A es.length c, .int .i64 com] 160))
  have h1 := h.alloc (.cells #[.int .i64 fr, .int .i64 last, .slice A es.length c, .int .i64 com] 160)
  obtain ⟨q0, q1, q2⟩ := h1.head
  have k3 := Blk.new w #[.int .i64 fr, .int .i64 last, .slice A es.length c, .int .i64 com] 160
  have p0 := k3.cell (i := 0) rfl
  have p1 := k3.cell (i := 1) rfl
  have hI : ∀ q, Calls Tryz.prog 145 #[.pointer (some ⟨g, 0, none⟩), .int .i64 fr] ((w.alloc (.cells #[.int .i64 fr, .int .i64 last, .slice A es.length c, .int .i64 com] 160)).drewN q) fun e w' => e = .returned (.bool true) ∧ w' = (w.alloc (.cells #[.int .i64 fr, .int .i64 last, .slice A es.length c, .int .i64 com] 160)).drewN q := fun q => by
    rw [← hb]
    exact (isOpen_c _ g F view n S (h1.drawn q) fr).mono fun e w' h => ⟨h.1, h.2.symm⟩
  have d1 : decide (last < 0) = false := decide_eq_false (by have : 0 ≤ last := hl.1; omega)
  have d3 : decide (view ≤ last) = false := decide_eq_false (by have : last < view := hl.2; omega)
  have K3 := Lib.hid k3
  have H1 := Lib.hid h1
  have HL := Lib.hid hl
  have HB := Lib.hid hb
  have RL := Lib.hid (R.alloc (.cells #[.int .i64 fr, .int .i64 last, .slice A es.length c, .int .i64 com] 160)).tight
  have HEL := Lib.hid R.elen
  clear k3 h h1 q1 q2 hl hb R
  show Calls _ _ #[_, .agg #[.int .i64 fr, .int .i64 last, .slice A es.length c, .int .i64 com]] _ _
  go_enter Tryz.func94, Tryz.ntmps94
  go_wp2_with fail
  go_quiet (first | (go_at_call 145; refine Calls.quiet_of_same (hI _)))
  clear hI p0 p1 q0 d1 d3
  have B2 := Lib.hid (show Below w.heap.size w ((w.alloc (.cells #[.int .i64 fr, .int .i64 last, .slice A es.length c, .int .i64 com] 160)).drewN nq) from B1.out.trans ⟨rfl, rfl, rfl, Nat.le_refl _, fun _ _ => rfl⟩)
  have H2 := Lib.hid (H1.out.drawn nq)
  have K2 := Lib.hid (show Blk ((w.alloc (.cells #[.int .i64 fr, .int .i64 last, .slice A es.length c, .int .i64 com] 160)).drewN nq) w.heap.size _ _ from K3.out)
  have R2 := Lib.hid (show Rd ((w.alloc (.cells #[.int .i64 fr, .int .i64 last, .slice A es.length c, .int .i64 com] 160)).drewN nq) ((w.alloc (.cells #[.int .i64 fr, .int .i64 last, .slice A es.length c, .int .i64 com] 160)).drewN nq).heap.size A c 7 es.length (els es) from RL.out)
  have p2 := K2.out.cell (i := 2) rfl
  have LG := Lib.hid H1.out.lt
  have NE := Lib.hid (show w.heap.size ∉ [g] by simp only [List.mem_singleton]; intro e; have := HLT.out; omega)
  clear B1 H1 K3 RL
  generalize (w.alloc (.cells #[.int .i64 fr, .int .i64 last, .slice A es.length c, .int .i64 com] 160)).drewN nq = w2 at *
  go_wp2_with fail
  refine (New_c w2 _ A c es.length es R2.out).mono ?_
  rintro e w3 ⟨gl, FL, rfl, l3, f3, b3⟩
  have B3 := Lib.hid (B2.out.trans (b3.mono B2.out.size))
  have H3 := Lib.hid (H2.out.past b3)
  have K3 := Lib.hid (K2.out.past b3)
  have L3 := Lib.hid l3
  have p2 := K3.out.cell (i := 2) rfl
  have p3 := K3.out.cell (i := 3) rfl
  have hN : ∀ q, Calls Tryz.prog 144 #[.pointer (some ⟨gl, 0, none⟩)] (w3.drewN q) fun e w' => e = .returned (.int .i64 (PLog.log es).length) ∧ w' = w3.drewN q := fun q =>
    (Len_c (w3.drewN q) gl FL (PLog.log es) (L3.out.past ⟨rfl, rfl, rfl, Nat.le_refl _, fun _ _ => rfl⟩)).mono fun e w' h => ⟨h.1, h.2.symm⟩
  obtain ⟨m, hm⟩ : ∃ m, (PLog.log es).length = m := ⟨_, rfl⟩
  rw [hm] at hN
  have HM := Lib.hid hm
  clear hm b3 l3 f3 B2 H2 K2 R2
  have hlt : m < es.length := by
    have h1 := HNL.out
    rw [show (PLog.log es).length = m from HM.out] at h1
    have h2 : m ≤ es.length := by rw [← HM.out]; exact log_len_le es
    omega
  have d4 : decide ((m : Int) < (es.length : Int)) = true := decide_eq_true (by omega)
  have d4' : decide (m < es.length) = true := decide_eq_true hlt
  clear hlt
  go_wp2_with fail
  go_quiet (first | (go_at_call 144; refine Calls.quiet_of_same (hN _)))
  go_wp2_with fail
  go_ret
  exact ⟨rfl, B3.out.trans ⟨rfl, rfl, rfl, Nat.le_refl _, fun _ _ => rfl⟩⟩

set_option maxHeartbeats 4000000 in
set_option maxRecDepth 100000 in
theorem vadd_com (w : World) (g : Nat) (F : List Nat) (view n : Int) (S : List (Option Vt)) (h : Vs w g F view n S) (v : Vt) (A : Option Addr) (c : Nat) (R : Rd w w.heap.size A c 7 v.es.length (els v.es))
    (hb : (decide (1 ≤ v.fr ∧ v.fr ≤ n) && !PTeam.has (tm S) v.fr) = true) (hl : 0 ≤ v.last ∧ v.last < view) (hn : isLog v.es = true) (hc : v.com < 0 ∨ (v.es.length : Int) < v.com) :
    Calls Tryz.prog 94 #[.pointer (some ⟨g, 0, none⟩), vv v A c] w fun e w' => e = .returned (.bool false) ∧ Below w.heap.size w w' := by
  have HLT := Lib.hid h.lt
  have HF := Lib.hid h.hi
  have HNL := Lib.hid (of_decide_eq_true hn)
  have HC := Lib.hid hc
  clear hn hc
  obtain ⟨fr, last, es, com⟩ := v
  have B1 := Lib.hid ((Below.refl w.heap.size w).alloc (Nat.le_refl _) (.cells #[.int .i64 fr, .int .i64 last, .slice A es.length c, .int .i64 com] 160))
  have h1 := h.alloc (.cells #[.int .i64 fr, .int .i64 last, .slice A es.length c, .int .i64 com] 160)
  obtain ⟨q0, q1, q2⟩ := h1.head
  have k3 := Blk.new w #[.int .i64 fr, .int .i64 last, .slice A es.length c, .int .i64 com] 160
  have p0 := k3.cell (i := 0) rfl
  have p1 := k3.cell (i := 1) rfl
  have hI : ∀ q, Calls Tryz.prog 145 #[.pointer (some ⟨g, 0, none⟩), .int .i64 fr] ((w.alloc (.cells #[.int .i64 fr, .int .i64 last, .slice A es.length c, .int .i64 com] 160)).drewN q) fun e w' => e = .returned (.bool true) ∧ w' = (w.alloc (.cells #[.int .i64 fr, .int .i64 last, .slice A es.length c, .int .i64 com] 160)).drewN q := fun q => by
    rw [← hb]
    exact (isOpen_c _ g F view n S (h1.drawn q) fr).mono fun e w' h => ⟨h.1, h.2.symm⟩
  have d1 : decide (last < 0) = false := decide_eq_false (by have : 0 ≤ last := hl.1; omega)
  have d3 : decide (view ≤ last) = false := decide_eq_false (by have : last < view := hl.2; omega)
  have K3 := Lib.hid k3
  have H1 := Lib.hid h1
  have HL := Lib.hid hl
  have HB := Lib.hid hb
  have RL := Lib.hid (R.alloc (.cells #[.int .i64 fr, .int .i64 last, .slice A es.length c, .int .i64 com] 160)).tight
  have HEL := Lib.hid R.elen
  clear k3 h h1 q1 q2 hl hb R
  show Calls _ _ #[_, .agg #[.int .i64 fr, .int .i64 last, .slice A es.length c, .int .i64 com]] _ _
  go_enter Tryz.func94, Tryz.ntmps94
  go_wp2_with fail
  go_quiet (first | (go_at_call 145; refine Calls.quiet_of_same (hI _)))
  clear hI p0 p1 q0 d1 d3
  have B2 := Lib.hid (show Below w.heap.size w ((w.alloc (.cells #[.int .i64 fr, .int .i64 last, .slice A es.length c, .int .i64 com] 160)).drewN nq) from B1.out.trans ⟨rfl, rfl, rfl, Nat.le_refl _, fun _ _ => rfl⟩)
  have H2 := Lib.hid (H1.out.drawn nq)
  have K2 := Lib.hid (show Blk ((w.alloc (.cells #[.int .i64 fr, .int .i64 last, .slice A es.length c, .int .i64 com] 160)).drewN nq) w.heap.size _ _ from K3.out)
  have R2 := Lib.hid (show Rd ((w.alloc (.cells #[.int .i64 fr, .int .i64 last, .slice A es.length c, .int .i64 com] 160)).drewN nq) ((w.alloc (.cells #[.int .i64 fr, .int .i64 last, .slice A es.length c, .int .i64 com] 160)).drewN nq).heap.size A c 7 es.length (els es) from RL.out)
  have p2 := K2.out.cell (i := 2) rfl
  have LG := Lib.hid H1.out.lt
  have NE := Lib.hid (show w.heap.size ∉ [g] by simp only [List.mem_singleton]; intro e; have := HLT.out; omega)
  clear B1 H1 K3 RL
  generalize (w.alloc (.cells #[.int .i64 fr, .int .i64 last, .slice A es.length c, .int .i64 com] 160)).drewN nq = w2 at *
  go_wp2_with fail
  refine (New_c w2 _ A c es.length es R2.out).mono ?_
  rintro e w3 ⟨gl, FL, rfl, l3, f3, b3⟩
  have B3 := Lib.hid (B2.out.trans (b3.mono B2.out.size))
  have H3 := Lib.hid (H2.out.past b3)
  have K3 := Lib.hid (K2.out.past b3)
  have L3 := Lib.hid l3
  have p2 := K3.out.cell (i := 2) rfl
  have p3 := K3.out.cell (i := 3) rfl
  have hN : ∀ q, Calls Tryz.prog 144 #[.pointer (some ⟨gl, 0, none⟩)] (w3.drewN q) fun e w' => e = .returned (.int .i64 (PLog.log es).length) ∧ w' = w3.drewN q := fun q =>
    (Len_c (w3.drewN q) gl FL (PLog.log es) (L3.out.past ⟨rfl, rfl, rfl, Nat.le_refl _, fun _ _ => rfl⟩)).mono fun e w' h => ⟨h.1, h.2.symm⟩
  obtain ⟨m, hm⟩ : ∃ m, (PLog.log es).length = m := ⟨_, rfl⟩
  rw [hm] at hN
  have HM := Lib.hid hm
  clear hm b3 l3 f3 B2 H2 K2 R2
  obtain rfl : m = es.length := by rw [← HM.out]; exact HNL.out
  have d4 : decide ((es.length : Int) < (es.length : Int)) = false := decide_eq_false (by omega)
  obtain ⟨b1, hb1⟩ : ∃ b, decide (com < 0) = b := ⟨_, rfl⟩
  obtain ⟨b2, hb2⟩ : ∃ b, decide (com > (es.length : Int)) = b := ⟨_, rfl⟩
  have hb2' : decide ((es.length : Int) < com) = b2 := hb2
  have HOR : b1 = true ∨ (b1 = false ∧ b2 = true) := by
    rw [← hb1, ← hb2]
    have h := HC.out
    by_cases hz : com < 0
    · exact .inl (decide_eq_true hz)
    · refine .inr ⟨decide_eq_false hz, decide_eq_true ?_⟩
      rcases h with h | h
      · exact absurd h hz
      · exact h
  rcases HOR with rfl | ⟨rfl, rfl⟩
  all_goals
    go_wp2_with fail
    go_quiet (first | (go_at_call 144; refine Calls.quiet_of_same (hN _)))
    go_wp2_with fail
    go_ret
    exact ⟨rfl, B3.out.trans ⟨rfl, rfl, rfl, Nat.le_refl _, fun _ _ => rfl⟩⟩

set_option maxHeartbeats 4000000 in
set_option maxRecDepth 100000 in
theorem vadd_yes (w : World) (g : Nat) (F : List Nat) (view n : Int) (S : List (Option Vt)) (h : Vs w g F view n S) (v : Vt) (A : Option Addr) (c : Nat) (R : Rd w w.heap.size A c 7 v.es.length (els v.es))
    (hb : (decide (1 ≤ v.fr ∧ v.fr ≤ n) && !PTeam.has (tm S) v.fr) = true) (hl : 0 ≤ v.last ∧ v.last < view) (hn : isLog v.es = true) (hc : 0 ≤ v.com ∧ v.com ≤ v.es.length) (h7 : v.fr ≤ 7) :
    Calls Tryz.prog 94 #[.pointer (some ⟨g, 0, none⟩), vv v A c] w fun e w' => e = .returned (.bool true) ∧ VsW w w' g F view n (put S v) := by
  have HLT := Lib.hid h.lt
  have HF := Lib.hid h.hi
  have H7 := Lib.hid h7
  have HNL := Lib.hid (of_decide_eq_true hn)
  have HC := Lib.hid hc
  clear hn hc h7
  obtain ⟨fr, last, es, com⟩ := v
  have B1 := Lib.hid ((Below.refl w.heap.size w).alloc (Nat.le_refl _) (.cells #[.int .i64 fr, .int .i64 last, .slice A es.length c, .int .i64 com] 160))
  have h1 := h.alloc (.cells #[.int .i64 fr, .int .i64 last, .slice A es.length c, .int .i64 com] 160)
  obtain ⟨q0, q1, q2⟩ := h1.head
  have k3 := Blk.new w #[.int .i64 fr, .int .i64 last, .slice A es.length c, .int .i64 com] 160
  have p0 := k3.cell (i := 0) rfl
  have p1 := k3.cell (i := 1) rfl
  have hI : ∀ q, Calls Tryz.prog 145 #[.pointer (some ⟨g, 0, none⟩), .int .i64 fr] ((w.alloc (.cells #[.int .i64 fr, .int .i64 last, .slice A es.length c, .int .i64 com] 160)).drewN q) fun e w' => e = .returned (.bool true) ∧ w' = (w.alloc (.cells #[.int .i64 fr, .int .i64 last, .slice A es.length c, .int .i64 com] 160)).drewN q := fun q => by
    rw [← hb]
    exact (isOpen_c _ g F view n S (h1.drawn q) fr).mono fun e w' h => ⟨h.1, h.2.symm⟩
  have d1 : decide (last < 0) = false := decide_eq_false (by have : 0 ≤ last := hl.1; omega)
  have d3 : decide (view ≤ last) = false := decide_eq_false (by have : last < view := hl.2; omega)
  have K3 := Lib.hid k3
  have H1 := Lib.hid h1
  have HL := Lib.hid hl
  have HB := Lib.hid hb
  have RL := Lib.hid (R.alloc (.cells #[.int .i64 fr, .int .i64 last, .slice A es.length c, .int .i64 com] 160)).tight
  have HEL := Lib.hid R.elen
  clear k3 h h1 q1 q2 hl hb R
  show Calls _ _ #[_, .agg #[.int .i64 fr, .int .i64 last, .slice A es.length c, .int .i64 com]] _ _
  go_enter Tryz.func94, Tryz.ntmps94
  go_wp2_with fail
  go_quiet (first | (go_at_call 145; refine Calls.quiet_of_same (hI _)))
  clear hI p0 p1 q0 d1 d3
  have B2 := Lib.hid (show Below w.heap.size w ((w.alloc (.cells #[.int .i64 fr, .int .i64 last, .slice A es.length c, .int .i64 com] 160)).drewN nq) from B1.out.trans ⟨rfl, rfl, rfl, Nat.le_refl _, fun _ _ => rfl⟩)
  have H2 := Lib.hid (H1.out.drawn nq)
  have K2 := Lib.hid (show Blk ((w.alloc (.cells #[.int .i64 fr, .int .i64 last, .slice A es.length c, .int .i64 com] 160)).drewN nq) w.heap.size _ _ from K3.out)
  have R2 := Lib.hid (show Rd ((w.alloc (.cells #[.int .i64 fr, .int .i64 last, .slice A es.length c, .int .i64 com] 160)).drewN nq) ((w.alloc (.cells #[.int .i64 fr, .int .i64 last, .slice A es.length c, .int .i64 com] 160)).drewN nq).heap.size A c 7 es.length (els es) from RL.out)
  have p2 := K2.out.cell (i := 2) rfl
  have LG := Lib.hid H1.out.lt
  have NE := Lib.hid (show w.heap.size ∉ [g] by simp only [List.mem_singleton]; intro e; have := HLT.out; omega)
  clear B1 H1 K3 RL
  generalize (w.alloc (.cells #[.int .i64 fr, .int .i64 last, .slice A es.length c, .int .i64 com] 160)).drewN nq = w2 at *
  go_wp2_with fail
  refine (New_c w2 _ A c es.length es R2.out).mono ?_
  rintro e w3 ⟨gl, FL, rfl, l3, f3, b3⟩
  have B3 := Lib.hid (B2.out.trans (b3.mono B2.out.size))
  have H3 := Lib.hid (H2.out.past b3)
  have K3 := Lib.hid (K2.out.past b3)
  have L3 := Lib.hid l3
  have p2 := K3.out.cell (i := 2) rfl
  have p3 := K3.out.cell (i := 3) rfl
  have hN : ∀ q, Calls Tryz.prog 144 #[.pointer (some ⟨gl, 0, none⟩)] (w3.drewN q) fun e w' => e = .returned (.int .i64 (PLog.log es).length) ∧ w' = w3.drewN q := fun q =>
    (Len_c (w3.drewN q) gl FL (PLog.log es) (L3.out.past ⟨rfl, rfl, rfl, Nat.le_refl _, fun _ _ => rfl⟩)).mono fun e w' h => ⟨h.1, h.2.symm⟩
  obtain ⟨m, hm⟩ : ∃ m, (PLog.log es).length = m := ⟨_, rfl⟩
  rw [hm] at hN
  have HM := Lib.hid hm
  clear hm b3 l3 f3 B2 H2 K2 R2
  obtain rfl : m = es.length := by rw [← HM.out]; exact HNL.out
  have d4 : decide ((es.length : Int) < (es.length : Int)) = false := decide_eq_false (by omega)
  have d5 : decide (com < 0) = false := decide_eq_false (by have : 0 ≤ com := HC.out.1; omega)
  have d6 : decide (com > (es.length : Int)) = false := decide_eq_false (by have : com ≤ (es.length : Int) := HC.out.2; omega)
  have d7 : decide ((es.length : Int) < com) = false := d6
  go_wp2_with fail
  go_quiet (first | (go_at_call 144; refine Calls.quiet_of_same (hN _)))
  have HLOG := Lib.hid (log_eq_of_len (es := es) HNL.out)
  have B4 := Lib.hid (show Below w.heap.size w (w3.drewN nq) from B3.out.trans ⟨rfl, rfl, rfl, Nat.le_refl _, fun _ _ => rfl⟩)
  have H4 := Lib.hid (H3.out.drawn nq)
  have K4 := Lib.hid (show Blk (w3.drewN nq) w.heap.size _ _ from K3.out)
  have L4 := Lib.hid (show Lg (w3.drewN nq) gl FL (PLog.log es) from L3.out.past ⟨rfl, rfl, rfl, Nat.le_refl _, fun _ _ => rfl⟩)
  clear hN d4 d5 d6 d7 p2 p3 B3 H3 K3 L3
  generalize w3.drewN nq = w4 at *
  go_wp2_with fail
  refine (From_in w4 gl FL (PLog.log es) L4.out 0 (Nat.zero_le _)).mono ?_
  rw [HLOG.out, List.drop_zero, Nat.sub_zero]
  rintro e w5 ⟨A5, c5, rfl, o5, b5⟩
  have B5 := Lib.hid (B4.out.trans (b5.mono B4.out.size))
  have H5 := Lib.hid (H4.out.past b5)
  have K5 := Lib.hid (K4.out.past b5)
  have O5 := Lib.hid (Ow.down (base' := w4.heap.size) (Ow.of_own o5) (Nat.le_refl _))
  have S4 := Lib.hid B4.out.size
  have p2 := K5.out.cell (i := 2) rfl
  have f2 := K5.out.free 2
  clear b5 o5 B4 H4 K4 L4
  go_wp2_with fail
  have GB := grown_set w5 w.heap.size 2 (.slice A5 es.length c5)
  have B6 := Lib.hid (show Below w.heap.size w (w5.setCell ⟨w.heap.size, 2, none⟩ (.slice A5 es.length c5)) from B5.out.trans (grown_below GB (Nat.le_refl _) B5.out.size))
  have H6 := Lib.hid (H5.out.touch (Touch.of_grown GB) (fun k hk hm => by
    rw [List.mem_singleton.1 hk] at hm
    have q1 := HF.out w.heap.size hm
    omega))
  have K6 := Lib.hid (show Blk (w5.setCell ⟨w.heap.size, 2, none⟩ (.slice A5 es.length c5)) w.heap.size _ [.int .i64 fr, .int .i64 last, .slice A5 es.length c5, .int .i64 com] from K5.out.set 2 _)
  have O6 := Lib.hid (O5.out.touch (Touch.of_grown GB) (fun s hs => by rw [List.mem_singleton.1 hs]; exact O5.out.ne K5.out (by decide)))
  clear GB p2 f2 B5 H5 K5 O5
  generalize w5.setCell ⟨w.heap.size, 2, none⟩ (.slice A5 es.length c5) = w6 at *
  obtain ⟨hfr1, hfr2⟩ := of_decide_eq_true (show decide (1 ≤ fr ∧ fr ≤ n) = true by have := HB.out; rw [Bool.and_eq_true] at this; exact this.1)
  have hfr7 : fr ≤ 7 := H7.out
  obtain ⟨k, rfl⟩ : ∃ k : Nat, fr = (k : Int) + 1 := ⟨(fr - 1).toNat, by omega⟩
  have hk7 : k < 7 := by omega
  have ek : (k : Int) < 7 := by omega
  obtain ⟨P, hP, hB, hO, hFe⟩ := H6.out.ex
  have hPl : P.length = 7 := by have := congrArg List.length hP; rw [List.length_map, tab_len, H6.out.len] at this; exact this
  have TH := Lib.hid (Blk.there (show Blk w6.drew g _ _ from hB) (o := 3 + k * 4) (n := 4) (by simp only [List.length_append, vrs_length, hPl]; simp; omega))
  have ht := Lib.hid (tm_put S H6.out.len ⟨(k : Int) + 1, last, es, com⟩ (by show (1 : Int) ≤ (k : Int) + 1; omega) hfr7)
  have HW := Lib.hid (hB.cell (i := 2) rfl)
  have HFZ := Lib.hid (hB.free 2)
  clear hB hO hP hFe hPl hfr1 hfr2
  -- R7
-- REGION (*curfew/vote.Votes).Add 7 vadd7 2
  refine Hs.begin ([g]) ?_
  refine Hs.take (v := .pointer (some ⟨g, 0, none⟩)) 0 53 rfl ?_ (fun _ _ => rfl)
  refine Hs.take (v := .pointer (some ⟨w.heap.size, 0, none⟩)) 1 54 rfl ?_ (fun w' hw' => by go_simp; first | done | rfl | (simp; omega))
  refine Hs.take (v := .int .i64 ((k : Int) + 1)) 2 55 rfl ?_ (fun w' hw' => by have cc := (Blk.touch (show Blk w6.drew w.heap.size _ _ from K6.out) hw' NE.out).cell (i := 0) rfl; go_simp)
  refine Hs.take (v := .int .i64 (k : Int)) 3 56 rfl ?_ (fun w' hw' => by go_simp; first | done | rfl | omega | exact wrap_in (by omega) (by omega) | exact Int.tmod_eq_emod_of_nonneg (by omega) | exact Int.tdiv_eq_ediv_of_nonneg (by omega) | (simp; omega))
  refine Hs.take (v := .agg #[.int .i64 ((k : Int) + 1), .int .i64 last, .slice A5 es.length c5, .int .i64 com]) 4 57 rfl ?_ (fun w' hw' => by exact run_loadV (Blk.touch (show Blk w6.drew w.heap.size _ _ from K6.out) hw' NE.out).range rfl)
  refine Hs.take (v := .pointer (some ⟨g, 0, none⟩)) 5 58 rfl ?_ (fun w' hw' => by go_simp; first | done | rfl | (simp; omega))
  refine Hs.take (v := .pointer (some ⟨g, 3, none⟩)) 6 59 rfl ?_ (fun w' hw' => by go_simp; first | done | rfl | (simp; omega))
  refine Hs.take (v := .pointer (some ⟨g, 3 + k * 4, none⟩)) 7 60 rfl ?_ (fun w' hw' => by go_simp)
  refine Hs.only 8 none rfl ?_
  refine wpList_store_mid rfl 160 (.tmp 60) (.tmp 57) rfl g (3 + k * 4) #[.int .i64 ((k : Int) + 1), .int .i64 last, .slice A5 es.length c5, .int .i64 com] rfl rfl TH.out (by kernel_rfl) (by kernel_rfl) ?_
  show wpList _ _ _ [] _ (w6.drew.setCells g (3 + k * 4) [.int .i64 ((k : Int) + 1), .int .i64 last, .slice A5 es.length c5, .int .i64 com])
  refine Hs.next (((((Touch.refl [g] w6.drew).cell (List.mem_singleton.2 rfl) (3 + k * 4) (.int .i64 ((k : Int) + 1))).cell (List.mem_singleton.2 rfl) (3 + k * 4 + 1) (.int .i64 last)).cell (List.mem_singleton.2 rfl) (3 + k * 4 + 2) (.slice A5 es.length c5)).cell (List.mem_singleton.2 rfl) (3 + k * 4 + 3) (.int .i64 com)) ?_ rfl
  refine Hs.done ?_
-- END
  have QT := Lib.hid (show ((w6.drew.setCells g (3 + k * 4) [.int .i64 ((k : Int) + 1), .int .i64 last, .slice A5 es.length c5, .int .i64 com]).drew).cell? ⟨g, 2, none⟩ = some (.int .i64 (tm S)) from
    (World.cell?_setCells_out g [.int .i64 ((k : Int) + 1), .int .i64 last, .slice A5 es.length c5, .int .i64 com] (3 + k * 4) w6.drew ⟨g, 2, none⟩ (fun _ _ => .inl (by show 2 < 3 + k * 4; omega))).trans HW.out)
  have FT := Lib.hid (show ((w6.drew.setCells g (3 + k * 4) [.int .i64 ((k : Int) + 1), .int .i64 last, .slice A5 es.length c5, .int .i64 com]).drew).frozen? ⟨g, 2, none⟩ = false from
    (World.frozen?_setCells g _ _ w6.drew ⟨g, 2, none⟩).trans HFZ.out)
  have T7 : Touch [g] w6.drew (w6.drew.setCells g (3 + k * 4) [.int .i64 ((k : Int) + 1), .int .i64 last, .slice A5 es.length c5, .int .i64 com]) := ((((Touch.refl [g] w6.drew).cell (List.mem_singleton.2 rfl) (3 + k * 4) (.int .i64 ((k : Int) + 1))).cell (List.mem_singleton.2 rfl) (3 + k * 4 + 1) (.int .i64 last)).cell (List.mem_singleton.2 rfl) (3 + k * 4 + 2) (.slice A5 es.length c5)).cell (List.mem_singleton.2 rfl) (3 + k * 4 + 3) (.int .i64 com)
  have K7 := Lib.hid (Blk.touch (show Blk w6.drew w.heap.size _ _ from K6.out) T7 NE.out)
  have LT := Lib.hid (tm_lt S)
  have ET := Lib.hid (show tm S = tm S from rfl)
  clear T7
  have HST := Lib.hid (fun (w7 w8 : World) (e1 : w7 = (w6.drew.setCells g (3 + k * 4) [.int .i64 ((k : Int) + 1), .int .i64 last, .slice A5 es.length c5, .int .i64 com]).drew) (e2 : w8 = w7.setCell ⟨g, 2, none⟩ (.int .i64 (PTeam.wth (tm S) ((k : Int) + 1) : Nat))) =>
    Vs.store (w := w6.drew) (w0 := w) (w1 := w7) (w2 := w8) (A := A5) (c := c5) H6.out.drew B6.out.drew ⟨(k : Int) + 1, last, es, com⟩ (by show (1 : Int) ≤ (k : Int) + 1; omega) H7.out (Ow.down (O6.out.past (Below.refl _ _).drew) S4.out) (by rw [e1]; show _ = (World.setCells _ g (3 + ((k : Int) + 1 - 1).toNat * 4) _).drew; rw [show ((k : Int) + 1 - 1).toNat = k by omega]) (by rw [e2, ht.out]))
  clear O6 H6 B6 K6 HW HFZ TH ht
  generalize w6.drew.setCells g (3 + k * 4) [.int .i64 ((k : Int) + 1), .int .i64 last, .slice A5 es.length c5, .int .i64 com] = w7 at *
  generalize tm S = t at *
  go_wp2_with fail
  -- R8
-- REGION (*curfew/vote.Votes).Add 8 vadd8 2
  refine Hs.begin ([g]) ?_
  refine Hs.take (v := .pointer (some ⟨g, 0, none⟩)) 0 61 rfl ?_ (fun _ _ => rfl)
  refine Hs.take (v := .pointer (some ⟨g, 0, none⟩)) 1 62 rfl ?_ (fun _ _ => rfl)
  refine Hs.take (v := .pointer (some ⟨g, 0, none⟩)) 2 63 rfl ?_ (fun w' hw' => by go_simp; first | done | rfl | (simp; omega))
  refine Hs.take (v := .pointer (some ⟨g, 2, none⟩)) 3 64 rfl ?_ (fun w' hw' => by go_simp; first | done | rfl | (simp; omega))
  refine Hs.take (v := .pointer (some ⟨w.heap.size, 0, none⟩)) 5 66 rfl ?_ (fun w' hw' => by go_simp; first | done | rfl | (simp; omega))
  refine Hs.take (v := .int .i64 ((k : Int) + 1)) 6 67 rfl ?_ (fun w' hw' => by have cc := (Blk.touch (show Blk w7.drew w.heap.size _ _ from K7.out) hw' NE.out).cell (i := 0) rfl; go_simp)
  refine Hs.only 4 (some 65) rfl ?_
  refine wpList_runTo' rfl (.int .i64 (t : Int)) _ (run_loadTm QT.out rfl) ?_
  refine Hs.next (Touch.refl _ _) ?_
  refine Hs.call (f := 84) (args := #[.int .i64 (t : Int), .int .i64 ((k : Int) + 1)]) 7 68 rfl ?_ (run_callf Tryz.func84 (by kernel_rfl) (by kernel_rfl) (by simp only [List.map_toArray, List.map_cons, List.map_nil]; rfl))
  refine (tWith_c _ t _ LT.out).mono ?_
  rintro e w' ⟨rfl, rfl⟩
  refine Hs.back (Touch.refl _ _) ?_
  refine Hs.take (v := .pointer (some ⟨g, 0, none⟩)) 8 69 rfl ?_ (fun w' hw' => by go_simp; first | done | rfl | (simp; omega))
  refine Hs.take (v := .pointer (some ⟨g, 2, none⟩)) 9 70 rfl ?_ (fun w' hw' => by go_simp; first | done | rfl | (simp; omega))
  refine Hs.only 10 none rfl ?_
  refine wpList_skipTo rfl rfl _ (run_storeTm QT.out FT.out rfl rfl) ?_
  refine Hs.next ((Touch.refl [g] _).cell (List.mem_singleton.2 rfl) 2 _) ?_ rfl
  refine Hs.done ?_
-- END
  have FIN := HST.out _ _ rfl rfl
  go_wp2_with fail
  go_ret
  exact ⟨rfl, FIN⟩

/-- Whatever vote. -/
theorem vadd_c (w : World) (g : Nat) (F : List Nat) (view n : Int) (S : List (Option Vt)) (h : Vs w g F view n S) (hn : n ≤ 7) (v : Vt) (A : Option Addr) (c : Nat) (R : Rd w w.heap.size A c 7 v.es.length (els v.es)) :
    Calls Tryz.prog 94 #[.pointer (some ⟨g, 0, none⟩), vv v A c] w fun e w' => e = .returned (.bool (ok view n S v)) ∧ VsW w w' g F view n (add view n S v) := by
  have no : ok view n S v = false → ∀ (e : Ending) (w' : World), e = .returned (.bool false) ∧ Below w.heap.size w w' → e = .returned (.bool (ok view n S v)) ∧ VsW w w' g F view n (add view n S v) := by
    intro hk e w' hp
    have ea : add view n S v = S := by unfold add; rw [hk]; rfl
    rw [hk, ea]
    exact ⟨hp.1, VsW.same h hp.2⟩
  have e0 : ok view n S v = ((decide (1 ≤ v.fr ∧ v.fr ≤ n) && !PTeam.has (tm S) v.fr) && decide (0 ≤ v.last ∧ v.last < view) && isLog v.es && decide (0 ≤ v.com ∧ v.com ≤ v.es.length)) := by
    unfold ok good
    cases decide (1 ≤ v.fr ∧ v.fr ≤ n) <;> cases PTeam.has (tm S) v.fr <;> cases decide (0 ≤ v.last ∧ v.last < view) <;> cases isLog v.es <;> cases decide (0 ≤ v.com ∧ v.com ≤ v.es.length) <;> rfl
  cases hb : (decide (1 ≤ v.fr ∧ v.fr ≤ n) && !PTeam.has (tm S) v.fr) with
  | false => exact (vadd_far w g F view n S h v A c (.inl hb)).mono (no (by rw [e0, hb]; rfl))
  | true =>
    by_cases hl : 0 ≤ v.last ∧ v.last < view
    · cases hlog : isLog v.es with
      | false => exact (vadd_log w g F view n S h v A c R hb hl hlog).mono (no (by rw [e0, hb, hlog]; simp))
      | true =>
        by_cases hc : 0 ≤ v.com ∧ v.com ≤ v.es.length
        · have hk : ok view n S v = true := by rw [e0, hb, hlog, decide_eq_true hl, decide_eq_true hc]; rfl
          have ea : add view n S v = put S v := by unfold add; rw [hk]; rfl
          rw [hk, ea]
          exact vadd_yes w g F view n S h v A c R hb hl hlog hc (by have := (good_from (ok_good hk)).2; omega)
        · exact (vadd_com w g F view n S h v A c R hb hl hlog (by omega)).mono (no (by rw [e0, decide_eq_false hc]; simp))
    · exact (vadd_far w g F view n S h v A c (.inr (by omega))).mono (no (by rw [e0, decide_eq_false hl]; simp))
end Go.Proofs.YtacipjdaiglnjaaGreatDoor

/- Quorums as plain data: who has how much (seven places), which number most reach. No program is named here. -/
namespace Go.Proofs.YtacipjdaiglnjaaGreatDoor.PQuo
open PTeam

def ge (l : List Int) (x : Int) : Nat := l.countP fun y => decide (x ≤ y)
def gt (l : List Int) (x : Int) : Nat := l.countP fun y => decide (x < y)
/-- What most of n reach, and nothing above it is. -/
def IsR (l : List Int) (n r : Int) : Prop := n / 2 < (ge l r : Int) ∧ (gt l r : Int) ≤ n / 2

theorem ge_le_gt (l : List Int) {x y : Int} (h : x < y) : ge l y ≤ gt l x := List.countP_mono_left fun z _ hz => by
  have := of_decide_eq_true hz; exact decide_eq_true (by omega)
theorem uniq {l : List Int} {n r s : Int} (h : IsR l n r) (k : IsR l n s) : r = s := by
  rcases Int.lt_trichotomy r s with e | e | e
  · have := ge_le_gt l e; have := h.2; have := k.1; omega
  · exact e
  · have := ge_le_gt l e; have := k.2; have := h.1; omega
/-- The place from the top of a list that rises. -/
theorem of_sorted {l S : List Int} (hp : S.Perm l) (hs : S.Pairwise (· ≤ ·)) (h7 : l.length = 7) (n : Int) (i : Nat) (hi : (i : Int) = 6 - n / 2) (hi7 : i < 7) : IsR l n (S.getD i 0) := by
  have hl : S.length = 7 := hp.length_eq.trans h7
  have hx : S.getD i 0 = S[i]'(by omega) := by rw [List.getD_eq_getElem?_getD, List.getElem?_eq_getElem (by omega)]; rfl
  have e0 : S = S.take i ++ S.drop i := (List.take_append_drop i S).symm
  have e1 : S = S.take (i + 1) ++ S.drop (i + 1) := (List.take_append_drop (i + 1) S).symm
  have hpw := List.pairwise_iff_getElem.1 hs
  obtain ⟨x, hxx⟩ : ∃ x, S.getD i 0 = x := ⟨_, rfl⟩
  rw [hxx] at hx
  rw [hxx]
  have hup : ∀ y ∈ S.drop i, x ≤ y := by
    intro y hy
    obtain ⟨j, hj, rfl⟩ := List.getElem_of_mem hy
    rw [List.length_drop] at hj
    rw [List.getElem_drop, hx]
    rcases Nat.eq_zero_or_pos j with rfl | h0
    · exact Int.le_refl _
    · exact hpw i (i + j) (by omega) (by omega) (by omega)
  have hdn : ∀ y ∈ S.take (i + 1), y ≤ x := by
    intro y hy
    obtain ⟨j, hj, rfl⟩ := List.getElem_of_mem hy
    rw [List.length_take] at hj
    rw [List.getElem_take, hx]
    rcases (by omega : j = i ∨ j < i) with rfl | h0
    · exact Int.le_refl _
    · exact hpw j i (by omega) (by omega) h0
  refine ⟨?_, ?_⟩
  · have h1 : ge l (x) = ge S (x) := (hp.countP_eq _).symm
    have h2 : ge S (x) = ge (S.take i) (x) + ge (S.drop i) (x) := by
      unfold ge; conv => lhs; rw [e0]
      rw [List.countP_append]
    have h3 : ge (S.drop i) (x) = (S.drop i).length := List.countP_eq_length.2 fun y hy => decide_eq_true (hup y hy)
    rw [List.length_drop, hl] at h3
    omega
  · have h1 : gt l (x) = gt S (x) := (hp.countP_eq _).symm
    have h2 : gt S (x) = gt (S.take (i + 1)) (x) + gt (S.drop (i + 1)) (x) := by
      unfold gt; conv => lhs; rw [e1]
      rw [List.countP_append]
    have h3 : gt (S.take (i + 1)) (x) = 0 := List.countP_eq_zero.2 fun y hy => by have := hdn y hy; simp; exact this
    have h4 : gt (S.drop (i + 1)) (x) ≤ (S.drop (i + 1)).length := List.countP_le_length
    rw [List.length_drop, hl] at h4
    omega

/-- Who has how much: seven places; who is none of them has 0; none has more than u. -/
structure Ok (m : Nat) (H : List Int) (u : Int) : Prop where
  len : H.length = 7
  lo : ∀ k : Nat, k < 7 → 0 ≤ H.getD k 0
  hi : ∀ k : Nat, k < 7 → H.getD k 0 ≤ u
  out : ∀ k : Nat, k < 7 → has m ((k : Int) + 1) = false → H.getD k 0 = 0
def none7 : List Int := [0, 0, 0, 0, 0, 0, 0]
theorem ok_none (m : Nat) {u : Int} (hu : 0 ≤ u) : Ok m none7 u := by
  have h : ∀ k : Nat, k < 7 → none7.getD k 0 = 0 := by decide
  exact ⟨rfl, fun k hk => by rw [h k hk]; exact Int.le_refl _, fun k hk => by rw [h k hk]; exact hu, fun k hk _ => h k hk⟩
/-- One's place. -/
def pl (id : Int) : Nat := (id - 1).toNat
def upd (H : List Int) (id x : Int) : List Int := H.set (pl id) (max (H.getD (pl id) 0) x)
theorem getD_set (H : List Int) (i j : Nat) (v : Int) (hi : i < H.length) : (H.set i v).getD j 0 = if i = j then v else H.getD j 0 := by
  rw [List.getD_eq_getElem?_getD, List.getD_eq_getElem?_getD, List.getElem?_set]
  by_cases e : i = j
  · subst e; simp [hi]
  · simp [e]
theorem pl_in {m : Nat} (hm : m < 128) {id : Int} (h : has m id = true) : 1 ≤ id ∧ id ≤ 7 ∧ pl id < 7 ∧ ((pl id : Nat) : Int) + 1 = id := by
  rw [has_bits m hm id] at h
  have h1 : 1 ≤ id ∧ id ≤ 7 := by
    rw [Bool.and_eq_true] at h; exact of_decide_eq_true h.1
  unfold pl
  omega
theorem ok_set {m : Nat} {H : List Int} {u v x id : Int} (hm : m < 128) (h : Ok m H u) (hid : has m id = true) (h0 : 0 ≤ x) (hx : x ≤ v) (huv : u ≤ v) : Ok m (H.set (pl id) x) v := by
  obtain ⟨a, b, c, d⟩ := pl_in hm hid
  have hl := h.len
  refine ⟨by rw [List.length_set]; exact hl, fun k hk => ?_, fun k hk => ?_, fun k hk ho => ?_⟩
  · rw [getD_set _ _ _ _ (by omega)]
    have := h.lo k hk
    split <;> omega
  · rw [getD_set _ _ _ _ (by omega)]
    have := h.hi k hk
    split <;> omega
  · rw [getD_set _ _ _ _ (by omega)]
    rw [if_neg]
    · exact h.out k hk ho
    · rintro rfl
      rw [d, hid] at ho; cases ho
theorem ok_upd {m : Nat} {H : List Int} {u x id : Int} (hm : m < 128) (h : Ok m H u) (hid : has m id = true) (hx : x ≤ u) : Ok m (upd H id x) u := by
  obtain ⟨a, b, c, d⟩ := pl_in hm hid
  have := h.lo _ c
  have := h.hi _ c
  exact ok_set hm h hid (by omega) (by omega) (Int.le_refl _)
theorem ok_more {m : Nat} {H : List Int} {u v : Int} (h : Ok m H u) (huv : u ≤ v) : Ok m H v := ⟨h.len, h.lo, fun k hk => by have := h.hi k hk; omega, h.out⟩
theorem upd_same {m : Nat} {H : List Int} {u x id : Int} (hm : m < 128) (h : Ok m H u) (hid : has m id = true) (hx : x ≤ H.getD (pl id) 0) : upd H id x = H := by
  obtain ⟨a, b, c, d⟩ := pl_in hm hid
  have hl := h.len
  unfold upd
  rw [Int.max_eq_left hx]
  refine List.ext_getElem? fun j => ?_
  rw [List.getElem?_set]
  by_cases e : pl id = j
  · subst e
    simp [List.getD_eq_getElem?_getD, show pl id < H.length by omega]
  · simp [e]

/-- All counts of a list by its places. -/
theorem by_place (H : List Int) (h : H.length = 7) : H = (List.range 7).map fun k => H.getD k 0 := by
  refine List.ext_getElem (by simp [h]) fun i h1 h2 => ?_
  rw [List.getElem_map, List.getElem_range, List.getD_eq_getElem?_getD, List.getElem?_eq_getElem h1]; rfl
theorem count_place (H : List Int) (h : H.length = 7) (p : Int → Bool) : H.countP p = (List.range 7).countP fun k => p (H.getD k 0) := by
  conv => lhs; rw [by_place H h]
  rw [List.countP_map]; rfl
/-- Those of a team, of a number that who is none of it has not. -/
theorem count_lst {m : Nat} {H : List Int} {u : Int} (hm : m < 128) (h : Ok m H u) (p : Int → Bool) (h0 : p 0 = false) : ((lst m).map fun id => H.getD (pl id) 0).countP p = H.countP p := by
  rw [count_place H h.len]
  unfold lst lstTo
  rw [List.map_map, List.countP_map, List.countP_filter]
  refine List.countP_congr fun k hk => ?_
  have hk := List.mem_range.1 hk
  have e : pl ((k : Int) + 1) = k := by unfold pl; omega
  simp only [Function.comp_apply, e, Bool.and_eq_true]
  constructor
  · exact fun h => h.1
  · intro hp
    refine ⟨hp, ?_⟩
    have := has_in m k hm hk
    cases ht : m.testBit k
    · rw [ht] at this
      rw [h.out k hk this, h0] at hp; cases hp
    · rfl
theorem most_in {m : Nat} {n : Int} (h : most m n = true) : 3 ≤ n ∧ n ≤ 7 ∧ m < 128 ∧ n / 2 < (cnt m : Int) ∧ m < 2 ^ n.toNat := by
  unfold most may at h
  simp only [Bool.and_eq_true, decide_eq_true_eq, Int.toNat_natCast] at h
  obtain ⟨⟨⟨h3, h7⟩, h0, h1⟩, h2⟩ := h
  have h1' : m < 2 ^ n.toNat := by
    have : ((2 ^ n.toNat : Nat) : Int) = 2 ^ n.toNat := by simp
    omega
  refine ⟨h3, h7, Nat.lt_of_lt_of_le h1' ?_, h2, h1'⟩
  exact Nat.pow_le_pow_right (by omega) (show n.toNat ≤ 7 by omega)
/-- What the laws count of a list of the team's. -/
theorem lst_isR {m : Nat} {H : List Int} {u n r : Int} (h : Ok m H u) (hm : most m n = true) (hr : IsR H n r) (hr0 : 0 ≤ r) :
    n / 2 < (ge ((lst m).map fun id => H.getD (pl id) 0) r : Int) ∧ (gt ((lst m).map fun id => H.getD (pl id) 0) r : Int) ≤ n / 2 := by
  obtain ⟨h3, h7, hlt, hc, _⟩ := most_in hm
  constructor
  · by_cases e : r = 0
    · subst e
      have : ge ((lst m).map fun id => H.getD (pl id) 0) 0 = ((lst m).map fun id => H.getD (pl id) 0).length := List.countP_eq_length.2 fun y hy => by
        obtain ⟨id, hid, rfl⟩ := List.mem_map.1 hy
        obtain ⟨_, _, hp, _⟩ := pl_in hlt ((lst_mem m hlt id).1 hid)
        exact decide_eq_true (h.lo _ hp)
      rw [this, List.length_map, lst_length]; exact hc
    · unfold ge
      rw [count_lst hlt h _ (decide_eq_false (by omega))]
      exact hr.1
  · unfold gt
    rw [count_lst hlt h _ (decide_eq_false (by omega))]
    exact hr.2
theorem isR_lo {m : Nat} {H : List Int} {u n r : Int} (h : Ok m H u) (hm : most m n = true) (hr : IsR H n r) : 0 ≤ r := by
  obtain ⟨h3, h7, _⟩ := most_in hm
  rcases Int.lt_or_le r 0 with e | e
  · have : gt H r = H.length := List.countP_eq_length.2 fun y hy => by
      obtain ⟨k, hk, rfl⟩ := List.getElem_of_mem hy
      have := h.lo k (by rw [← h.len]; exact hk)
      rw [List.getD_eq_getElem?_getD, List.getElem?_eq_getElem hk] at this
      have h0 : 0 ≤ H[k] := this
      exact decide_eq_true (by omega)
    have := hr.2
    have := h.len
    omega
  · exact e
/-- What stands fast in one team is had by someone of any other. -/
theorem meet {a b : Nat} {H : List Int} {u n r : Int} (h : Ok a H u) (ha : most a n = true) (hb : most b n = true) (hr : IsR H n r) : ∃ k : Nat, k < 7 ∧ has a ((k : Int) + 1) = true ∧ has b ((k : Int) + 1) = true ∧ r ≤ H.getD k 0 := by
  obtain ⟨h3, h7, hlt, hc, hp⟩ := most_in ha
  obtain ⟨_, _, hlt', hc', hp'⟩ := most_in hb
  have hr0 := isR_lo h ha hr
  let p : Nat → Bool := fun k => a.testBit k && decide (r ≤ H.getD k 0)
  let q : Nat → Bool := fun k => b.testBit k
  have hpq : n / 2 < ((List.range 7).countP p : Int) := by
    have := (lst_isR h ha hr hr0).1
    unfold ge lst lstTo at this
    rw [List.map_map, List.countP_map, List.countP_filter] at this
    have e : (List.range 7).countP (fun a_1 => ((fun y => decide (r ≤ y)) ∘ (fun id => H.getD (pl id) 0) ∘ fun i : Nat => (i : Int) + 1) a_1 && a.testBit a_1) = (List.range 7).countP p := by
      refine List.countP_congr fun k hk => ?_
      have e : pl ((k : Int) + 1) = k := by unfold pl; omega
      simp only [Function.comp_apply, e, p]
      rw [Bool.and_comm]
    rw [e] at this
    exact this
  by_cases hex : ∃ k : Nat, k < 7 ∧ p k = true ∧ q k = true
  · obtain ⟨k, hk, h1, h2⟩ := hex
    simp only [p, Bool.and_eq_true, decide_eq_true_eq] at h1
    exact ⟨k, hk, by rw [has_in a k hlt hk]; exact h1.1, by rw [has_in b k hlt' hk]; exact h2, h1.2⟩
  · exfalso
    have hd : ∀ k, k < 7 → p k = true → q k = false := fun k hk h1 => by
      cases h2 : q k
      · rfl
      · exact absurd ⟨k, hk, h1, h2⟩ hex
    have hsum : ∀ l : List Nat, (∀ k ∈ l, k < 7) → l.countP p + l.countP q ≤ l.countP fun k : Nat => decide ((k : Int) < n) := by
      intro l
      induction l with
      | nil => intro _; simp
      | cons x l ih =>
        intro hl
        have hx := hl x (List.mem_cons_self ..)
        have := ih fun k hk => hl k (List.mem_cons_of_mem _ hk)
        rw [List.countP_cons, List.countP_cons, List.countP_cons]
        have hn1 : p x = true → (x : Int) < n := fun h1 => by
          simp only [p, Bool.and_eq_true] at h1
          rcases Nat.lt_or_ge x n.toNat with e | e
          · omega
          · rw [Nat.testBit_lt_two_pow (Nat.lt_of_lt_of_le hp (Nat.pow_le_pow_right (by omega) e))] at h1; cases h1.1
        have hn2 : q x = true → (x : Int) < n := fun h1 => by
          rcases Nat.lt_or_ge x n.toNat with e | e
          · omega
          · have h1 : b.testBit x = true := h1
            rw [Nat.testBit_lt_two_pow (Nat.lt_of_lt_of_le hp' (Nat.pow_le_pow_right (by omega) e))] at h1; cases h1
        cases h1 : p x
        · cases h2 : q x
          · simp; omega
          · simp [hn2 h2]; omega
        · rw [hd x hx h1]; simp [hn1 h1]; omega
    have h1 := hsum (List.range 7) fun k hk => List.mem_range.1 hk
    have h2 : ((List.range 7).countP fun k : Nat => decide ((k : Int) < n) : Nat) = n.toNat := by
      obtain ⟨j, rfl⟩ := Int.eq_ofNat_of_zero_le (show 0 ≤ n by omega)
      have : j = 3 ∨ j = 4 ∨ j = 5 ∨ j = 6 ∨ j = 7 := by omega
      rcases this with rfl | rfl | rfl | rfl | rfl <;> rfl
    have h3 : (List.range 7).countP q = cnt b := rfl
    omega

/-- The document's own: of each place how many reach it; the greatest that most reach. -/
def dcnt (m : Nat) (H : List Int) (x : Int) (k : Nat) : Nat := (List.range k).countP fun j : Nat => has m ((j : Int) + 1) && decide (x ≤ H.getD j 0)
def dok (m : Nat) (n : Int) (H : List Int) (i : Nat) : Bool := has m ((i : Int) + 1) && decide (n / 2 < (dcnt m H (H.getD i 0) 7 : Int))
def dbest (m : Nat) (n : Int) (H : List Int) : Nat → Int
  | 0 => 0
  | i + 1 => if dok m n H i then max (dbest m n H i) (H.getD i 0) else dbest m n H i
theorem dbest_le (m : Nat) (n : Int) (H : List Int) {i k : Nat} (hk : k < i) (h : dok m n H k = true) : H.getD k 0 ≤ dbest m n H i := by
  induction i with
  | zero => omega
  | succ i ih =>
    unfold dbest
    rcases (by omega : k < i ∨ k = i) with e | rfl
    · have := ih e
      split <;> omega
    · rw [if_pos h]; omega
theorem dbest_lo (m : Nat) (n : Int) (H : List Int) (i : Nat) : 0 ≤ dbest m n H i := by
  induction i with
  | zero => exact Int.le_refl _
  | succ i ih => unfold dbest; split <;> omega
theorem dbest_one (m : Nat) (n : Int) (H : List Int) (i : Nat) : dbest m n H i = 0 ∨ ∃ k, k < i ∧ dok m n H k = true ∧ H.getD k 0 = dbest m n H i := by
  induction i with
  | zero => exact .inl rfl
  | succ i ih =>
    by_cases h : dok m n H i = true
    · have e : dbest m n H (i + 1) = max (dbest m n H i) (H.getD i 0) := by rw [dbest]; exact if_pos h
      rw [e]
      rcases Int.le_total (dbest m n H i) (H.getD i 0) with g | g
      · rw [Int.max_eq_right g]; exact .inr ⟨i, by omega, h, rfl⟩
      · rw [Int.max_eq_left g]
        rcases ih with h0 | ⟨k, hk, h1, h2⟩
        · exact .inl h0
        · exact .inr ⟨k, by omega, h1, h2⟩
    · have e : dbest m n H (i + 1) = dbest m n H i := by rw [dbest]; exact if_neg h
      rw [e]
      rcases ih with h0 | ⟨k, hk, h1, h2⟩
      · exact .inl h0
      · exact .inr ⟨k, by omega, h1, h2⟩
theorem dcnt_all {m : Nat} {H : List Int} {u : Int} (h : Ok m H u) {x : Int} (hx : 0 < x) : dcnt m H x 7 = ge H x := by
  unfold dcnt ge
  rw [count_place H h.len]
  refine List.countP_congr fun k hk => ?_
  have hk := List.mem_range.1 hk
  rw [Bool.and_eq_true]
  constructor
  · exact fun h => h.2
  · intro hp
    refine ⟨?_, hp⟩
    cases ht : has m ((k : Int) + 1)
    · rw [h.out k hk ht] at hp; have := of_decide_eq_true hp; omega
    · rfl
/-- The least of those above. -/
theorem least_above (H : List Int) (d : Int) : gt H d = 0 ∨ ∃ y ∈ H, d < y ∧ gt H d = ge H y := by
  have key : ∀ (l : List Int), (∀ y ∈ l, y ≤ d) ∨ ∃ y ∈ l, d < y ∧ ∀ z ∈ l, d < z → y ≤ z := by
    intro l
    induction l with
    | nil => exact .inl fun y hy => by cases hy
    | cons x l ih =>
      rcases Int.lt_or_le d x with hx | hx
      · rcases ih with h | ⟨y, hy, hdy, hm⟩
        · refine .inr ⟨x, List.mem_cons_self .., hx, fun z hz hdz => ?_⟩
          rcases List.mem_cons.1 hz with rfl | hz
          · exact Int.le_refl _
          · have := h z hz; omega
        · rcases Int.le_total x y with g | g
          · refine .inr ⟨x, List.mem_cons_self .., hx, fun z hz hdz => ?_⟩
            rcases List.mem_cons.1 hz with rfl | hz
            · exact Int.le_refl _
            · have := hm z hz hdz; omega
          · refine .inr ⟨y, List.mem_cons_of_mem _ hy, hdy, fun z hz hdz => ?_⟩
            rcases List.mem_cons.1 hz with rfl | hz
            · exact g
            · exact hm z hz hdz
      · rcases ih with h | ⟨y, hy, hdy, hm⟩
        · refine .inl fun y hy => ?_
          rcases List.mem_cons.1 hy with rfl | hy
          · exact hx
          · exact h y hy
        · refine .inr ⟨y, List.mem_cons_of_mem _ hy, hdy, fun z hz hdz => ?_⟩
          rcases List.mem_cons.1 hz with rfl | hz
          · omega
          · exact hm z hz hdz
  rcases key H with h | ⟨y, hy, hdy, hm⟩
  · exact .inl (List.countP_eq_zero.2 fun z hz => by have := h z hz; simp; omega)
  · refine .inr ⟨y, hy, hdy, List.countP_congr fun z hz => ?_⟩
    rw [decide_eq_true_eq, decide_eq_true_eq]
    exact ⟨hm z hz, fun h => by omega⟩
theorem dbest_isR {m : Nat} {H : List Int} {u n : Int} (h : Ok m H u) (hm : most m n = true) : IsR H n (dbest m n H 7) := by
  obtain ⟨h3, h7, hlt, hc, _⟩ := most_in hm
  have h0 := dbest_lo m n H 7
  refine ⟨?_, ?_⟩
  · rcases dbest_one m n H 7 with e | ⟨k, hk, h1, h2⟩
    · rw [e]
      have : ge H 0 = H.length := List.countP_eq_length.2 fun y hy => by
        obtain ⟨k, hk, rfl⟩ := List.getElem_of_mem hy
        have := h.lo k (by rw [← h.len]; exact hk)
        rw [List.getD_eq_getElem?_getD, List.getElem?_eq_getElem hk] at this
        exact decide_eq_true this
      rw [this, h.len]; omega
    · rcases (by omega : dbest m n H 7 = 0 ∨ 0 < dbest m n H 7) with e | e
      · rw [e]
        have : ge H 0 = H.length := List.countP_eq_length.2 fun y hy => by
          obtain ⟨k, hk, rfl⟩ := List.getElem_of_mem hy
          have := h.lo k (by rw [← h.len]; exact hk)
          rw [List.getD_eq_getElem?_getD, List.getElem?_eq_getElem hk] at this
          exact decide_eq_true this
        rw [this, h.len]; omega
      · rw [← dcnt_all h e]
        unfold dok at h1
        rw [Bool.and_eq_true, decide_eq_true_eq, h2] at h1
        exact h1.2
  · rcases Int.lt_or_le (n / 2) (gt H (dbest m n H 7)) with g | g
    · exfalso
      rcases least_above H (dbest m n H 7) with e | ⟨y, hy, hd, e⟩
      · omega
      · obtain ⟨k, hk, rfl⟩ := List.getElem_of_mem hy
        have hk7 : k < 7 := by rw [← h.len]; exact hk
        have hx : H.getD k 0 = H[k] := by rw [List.getD_eq_getElem?_getD, List.getElem?_eq_getElem hk]; rfl
        have hh : has m ((k : Int) + 1) = true := by
          cases ht : has m ((k : Int) + 1)
          · have := h.out k hk7 ht; omega
          · rfl
        have : dok m n H k = true := by
          unfold dok
          rw [hh, Bool.true_and, decide_eq_true_eq, hx, dcnt_all h (by omega), ← e]; exact g
        have := dbest_le m n H hk7 this
        omega
    · exact g
end Go.Proofs.YtacipjdaiglnjaaGreatDoor.PQuo

