/- The walk of NodePromise. -/
import Derived.Test.YtfolifhgmdglaaaGreatDoorSegLaw25D
namespace Go.Proofs.YtfolifhgmdglaaaGreatDoor
open Go.RowKit PNode

/-- A process that hears proposals alone. -/
structure Pm (id n top : Int) (p : Np) : Prop where
  eid : p.id = id
  en : p.n = n
  kn : p.knows = true
  pr : p.pro = top
  te : p.te = none
  la : p.last = 0
  L : p.L = []
  com : p.com = 0
  G : ∀ o, (PGram.at_ p.G o).boot ≤ 1
theorem Pm.new (id n : Int) : Pm id n 0 (newP id n 1 0) := ⟨rfl, rfl, rfl, rfl, rfl, rfl, rfl, rfl, fun o => by show (PGram.at_ PGram.zeroL o).boot ≤ 1; rw [zero_boot]; decide⟩
theorem at_put_boot {L : List Oth} {i j : Int} {o : Oth} {b : Int} (ho : o.boot ≤ b) (hL : (PGram.at_ L j).boot ≤ b) : (PGram.at_ (PGram.put L i o) j).boot ≤ b := by
  unfold PGram.at_ PGram.put at *
  rw [List.getD_eq_getElem?_getD] at hL ⊢
  rw [List.getElem?_set]
  split
  · split
    · exact ho
    · rename_i h1 h2
      rw [← h1, List.getElem?_eq_none (by omega)] at hL
      exact hL
  · exact hL
theorem Pm.got {id n top : Int} {p : Np} (h : Pm id n top p) {m : Msg} (hb : m.boot = 1) : Pm id n top (gotP p m) :=
  ⟨h.eid, h.en, h.kn, h.pr, h.te, h.la, h.L, h.com, fun o => by
    show (PGram.at_ (if m.dst ≠ p.id then p.G else if m.boot < (PGram.at_ p.G m.fr).boot then p.G else PGram.put p.G m.fr { PGram.at_ p.G m.fr with boot := m.boot }) o).boot ≤ 1
    split
    · exact h.G o
    · split
      · exact h.G o
      · exact at_put_boot (o := { PGram.at_ p.G m.fr with boot := m.boot }) (by show m.boot ≤ 1; omega) (h.G o)⟩
theorem Pm.vote {id n top : Int} {p : Np} (h : Pm id n top p) (v : Int) : Pm id n v { quitP p v with den := 0 } := ⟨h.eid, h.en, h.kn, rfl, rfl, h.la, rfl, rfl, h.G⟩
theorem Pm.out {id n top : Int} {p : Np} (h : Pm id n top p) : inV p = false := by
  unfold inV
  rw [h.la]
  simp
theorem and_lowN (x : Int) (m : Nat) (hm : m < 4611686018427387904) : 0 ≤ bits .and .i64 x (m : Int) ∧ bits .and .i64 x (m : Int) ≤ m := by
  have h1 : (BitVec.ofInt 64 (m : Int)).toNat = m := by rw [BitVec.toNat_ofInt]; omega
  have h2 : (BitVec.ofInt 64 x &&& BitVec.ofInt 64 (m : Int)).toNat ≤ m := by
    rw [BitVec.toNat_and, h1]; exact Nat.and_le_right
  have e : bits .and .i64 x (m : Int) = IntKind.i64.wrap ((BitVec.ofInt 64 x &&& BitVec.ofInt 64 (m : Int)).toNat : Nat) := rfl
  rw [e, IntKind.wrap_i64]
  omega
theorem decider_in {v n : Int} (h1 : 1 ≤ v) (h3 : 3 ≤ n) (h7 : n ≤ 7) : 1 ≤ PTeam.decider v n ∧ PTeam.decider v n ≤ n := by
  unfold PTeam.decider
  rw [if_neg (by omega)]
  have := Int.emod_nonneg (v - 1) (show n ≠ 0 by omega)
  have := Int.emod_lt_of_pos (v - 1) (show 0 < n by omega)
  omega

set_option maxHeartbeats 16000000 in
set_option maxRecDepth 100000 in
theorem NodePromise_good (w : World) (ht : Tab w) (id n : Int) (A0 : Option Addr) (len0 cap0 : Nat) (z0 : List Int) (h0 : Rd w w.heap.size A0 cap0 1 len0 (is z0)) (g1 : 3 ≤ n) (g2 : n ≤ 7) (g3 : 1 ≤ id) (g4 : id ≤ n) :
    Calls Tryz.prog 4 #[.int .i64 id, .int .i64 n, .slice A0 len0 cap0] w fun e w' => e = .returned (.bool true) ∧ Below w.heap.size w w' := by
  have HT := Lib.hid ht
  have H0 := Lib.hid h0
  clear ht h0
  go_enter Tryz.func4, Tryz.ntmps4
  go_wp2_with fail
  refine (begunN_c w HT.out).mono ?_
  rintro e w1 ⟨rfl, b1⟩
  have b2 := Lib.hid (b1.alloc b1.size (.cells #[.int .i64 0, .int .i64 0] 28))
  have D2 : Hid (Ds (w1.alloc (.cells #[.int .i64 0, .int .i64 0] 28)) w1.heap.size 0 0) := Lib.hid (Blk.new w1 _ _)
  have hd1 := Lib.hid (show w.heap.size ≤ w1.heap.size from b1.size)
  clear b1
  go_wp2_with fail
  refine (Sn.make (w0 := w) b2.out (id := id) (n := n) (b := 0) D2.out hd1.out g1 g2 g3 g4 (by omega) (by omega) (by omega) (by omega)).mono ?_
  rintro e w4 ⟨x, rfl, n4, -⟩
  have N4 := Lib.hid (show Sn w w4 x w1.heap.size (newP id n 1 0) from n4)
  obtain ⟨d, hd⟩ : ∃ d, w1.heap.size = d := ⟨_, rfl⟩
  rw [hd] at N4
  rw [hd]
  clear n4 hd hd1 D2 b2
  go_wp2_with fail
  go_loopw [11, 12] (fun s11 s12 wr => ∃ (k : Nat) (top : Int) (p : Np), s11 = .int .i64 top ∧ s12 = .int .i64 (k : Int) ∧ k ≤ len0 ∧ k ≤ 20 ∧ 0 ≤ top ∧ top ≤ 64 ∧ Hid (Pm id n top p) ∧ Hid (Sn w wr x d p)) (fun _ s12 _ => (20 - intOf s12).toNat)
  case atStart => exact ⟨0, 0, _, rfl, rfl, by omega, by omega, by omega, by omega, Lib.hid (Pm.new id n), N4⟩
  case round =>
    obtain ⟨k, top, p, rfl, rfl, hk1, hk2, ht0, ht6, HP, NK⟩ := hrel
    clear N4
    by_cases hi : k < len0
    · by_cases hi2 : k < 20
      · have hr := (H0.out.past NK.out.bel)
        obtain ⟨b, o', y, rfl, c0, -, -⟩ := hr.int hi
        clear hr
        obtain ⟨m, hm⟩ : ∃ m, bits .and .i64 y 63 = m := ⟨_, rfl⟩
        obtain ⟨m0, m1⟩ : 0 ≤ m ∧ m ≤ 63 := by rw [← hm]; exact and_lowN y 63 (by decide)
        go_wp2_with fail
        refine (rtDecider_c wr (1 + m) n (by omega) (by omega)).mono ?_
        obtain ⟨o, ho⟩ : ∃ o, PTeam.decider (1 + m) n = o := ⟨_, rfl⟩
        have hob := decider_in (v := 1 + m) (by omega) g1 g2
        rw [ho] at hob ⊢
        obtain ⟨ho1, ho2⟩ := hob
        have HO := Lib.hid ho
        clear ho c0
        rintro e w5 ⟨rfl, rfl⟩
        by_cases hid : o = id
        · go_wp2_with fail
          go_roundw
          case rel => exact ⟨k + 1, top, p, rfl, by go_num, by omega, by omega, by omega, by omega, HP, NK⟩
          case measure => simp [intOf]; omega
        · go_wp2_with fail
          refine (from_c wr 1 o id (1 + m)).mono ?_
          rintro e w6 ⟨rfl, b6⟩
          have N6 := Lib.hid (NK.out.past b6)
          have HM := Lib.hid (may_m (kind := 1) (id := o) (dst := id) (view := 1 + m) (mem := 0) (num := 0) (es := []) (yes := false) (by omega) (by omega) (by omega) hid (by omega) (by omega) (by omega) (by simp) rfl)
          have HG : Hid (PGram.herr p.id p.G (some (fromM 1 o id (1 + m))) = 0) := Lib.hid (by
            have h9 := HP.out.G o
            show (if id ≠ p.id then (1 : Int) else if (1 : Int) < (PGram.at_ p.G o).boot then 7 else 0) = 0
            rw [HP.out.eid, if_neg (by simp), if_neg (by omega)])
          have HH : Hid (∀ w1 F1 A1 c1, Nd w1 x d F1 (gotP p (fromM 1 o id (1 + m))) → Calls Tryz.prog 47 #[.pointer (some ⟨x, 0, none⟩), mv (fromM 1 o id (1 + m)) A1 c1] w1 fun e w' => e = .returned (.bool true) ∧ Below w1.heap.size w1 w') := Lib.hid (by
            intro w1 F1 A1 c1 h1
            have := hd_prop_t h1 (fromM 1 o id (1 + m)) A1 c1 rfl HP.out.kn (by show 0 ≤ 1 + m ∧ 1 + m ≤ _; omega)
            rw [show (PTeam.decider ((fromM 1 o id (1 + m))).view (gotP p (fromM 1 o id (1 + m))).n == ((fromM 1 o id (1 + m))).fr) = true from by
              show (PTeam.decider (1 + m) p.n == o) = true
              rw [HP.out.en, HO.out]; simp] at this
            exact this)
          have HPG := Lib.hid (HP.out.got (m := (fromM 1 o id (1 + m))) rfl)
          clear b6 NK
          go_wp2_with fail
          rcases (by omega : 1 + m < top ∨ 1 + m = top ∨ top < 1 + m) with hc | hc | hc
          · refine (hearL_of N6.out (fromM 1 o id (1 + m)) none 0 (Rd.nil _ _ _) HT.out HM.out HG.out (C := cOne (gotP p (fromM 1 o id (1 + m))) o (denyM (gotP p (fromM 1 o id (1 + m)))) (gotP p (fromM 1 o id (1 + m)))) (fun Q p' hh => by obtain ⟨_, _, _, e⟩ := hh; rw [e]; exact ⟨HPG.out.L, HPG.out.com⟩) (fun w1 F1 A1 c1 h1 => HH.out w1 F1 A1 c1 h1) (fun w1 F1 A1 c1 h1 r1 => heed_prop h1 (fromM 1 o id (1 + m)) A1 c1 rfl (fun w2 b2 => prop_deny (h1.past b2) (fromM 1 o id (1 + m)) A1 c1 (by show 1 + m < p.pro; rw [HP.out.pr]; exact hc)))).mono ?_
            rintro e w9 ⟨Q, p', A, c, ⟨A9, c9, rfl, rfl⟩, rfl, o9, n9, -⟩
            obtain ⟨g, rfl, -, hg⟩ := o9.some (by simp)
            have k0 : w9.cell? ⟨g, 0, none⟩ = some (.int .i64 2) := (o9.cell rfl (i := 0) rfl).1
            have k2 : w9.cell? ⟨g, 2, none⟩ = some (.int .i64 o) := (o9.cell rfl (i := 2) rfl).1
            have k4 : w9.cell? ⟨g, 4, none⟩ = some (.int .i64 top) := by
              have := (o9.cell rfl (i := 4) (u := .int .i64 p.pro) rfl).1
              rw [HP.out.pr] at this
              exact this
            have P9 : Hid (Pm id n top (gotP p (fromM 1 o id (1 + m)))) := HPG
            have N9 := Lib.hid n9
            have D9 : Hid (Ds w9 d (gotP p (fromM 1 o id (1 + m))).boot top) := Lib.hid (by have := n9.disk; rw [P9.out.pr] at this; exact this)
            clear o9 n9 N6 HG HH HM
            go_wp2_with fail
            refine (view_c w9 d _ _ D9.out).mono ?_
            rintro e w10 ⟨rfl, rfl⟩
            go_wp2_with fail
            go_roundw
            case rel => exact ⟨k + 1, top, (gotP p (fromM 1 o id (1 + m))), rfl, by go_num, by omega, by omega, by omega, by omega, P9, N9⟩
            case measure => simp [intOf]; omega
          · refine (hearL_of N6.out (fromM 1 o id (1 + m)) none 0 (Rd.nil _ _ _) HT.out HM.out HG.out (C := cOne (gotP p (fromM 1 o id (1 + m))) o (voteM (gotP p (fromM 1 o id (1 + m))) (1 + m)) (gotP p (fromM 1 o id (1 + m)))) (fun Q p' hh => by obtain ⟨_, _, _, e⟩ := hh; rw [e]; exact ⟨HPG.out.L, HPG.out.com⟩) (fun w1 F1 A1 c1 h1 => HH.out w1 F1 A1 c1 h1) (fun w1 F1 A1 c1 h1 r1 => heed_prop h1 (fromM 1 o id (1 + m)) A1 c1 rfl (fun w2 b2 => prop_again (h1.past b2) (fromM 1 o id (1 + m)) A1 c1 (by show 1 + m = p.pro; rw [HP.out.pr]; exact hc) (by show p.last < 1 + m; rw [HP.out.la]; omega) HPG.out.L HPG.out.com))).mono ?_
            rintro e w9 ⟨Q, p', A, c, ⟨A9, c9, rfl, rfl⟩, rfl, o9, n9, -⟩
            obtain ⟨g, rfl, -, hg⟩ := o9.some (by simp)
            have k0 : w9.cell? ⟨g, 0, none⟩ = some (.int .i64 3) := (o9.cell rfl (i := 0) rfl).1
            have k2 : w9.cell? ⟨g, 2, none⟩ = some (.int .i64 o) := (o9.cell rfl (i := 2) rfl).1
            have k4 : w9.cell? ⟨g, 4, none⟩ = some (.int .i64 (1 + m)) := (o9.cell rfl (i := 4) rfl).1
            have k5 : w9.cell? ⟨g, 5, none⟩ = some (.int .i64 0) := by
              have := (o9.cell rfl (i := 5) (u := .int .i64 p.last) rfl).1
              rw [HP.out.la] at this
              exact this
            have k8 : w9.cell? ⟨g, 8, none⟩ = some (.slice A9 0 c9) := (o9.cell rfl (i := 8) rfl).1
            have P9 : Hid (Pm id n (1 + m) (gotP p (fromM 1 o id (1 + m)))) := Lib.hid (by rw [hc]; exact HPG.out)
            have N9 := Lib.hid n9
            have D9 : Hid (Ds w9 d (gotP p (fromM 1 o id (1 + m))).boot (1 + m)) := Lib.hid (by have := n9.disk; rw [P9.out.pr] at this; exact this)
            clear o9 n9 N6 HG HH HM
            go_wp2_with fail
            refine (view_c w9 d _ _ D9.out).mono ?_
            rintro e w10 ⟨rfl, rfl⟩
            go_wp2_with fail
            go_roundw
            case rel => exact ⟨k + 1, (1 + m), (gotP p (fromM 1 o id (1 + m))), (by rw [hc]), by go_num, by omega, by omega, by omega, by omega, P9, N9⟩
            case measure => simp [intOf]; omega
          · refine (hearL_of N6.out (fromM 1 o id (1 + m)) none 0 (Rd.nil _ _ _) HT.out HM.out HG.out (C := cOne (gotP p (fromM 1 o id (1 + m))) o (voteM (gotP p (fromM 1 o id (1 + m))) (1 + m)) { quitP (gotP p (fromM 1 o id (1 + m))) (1 + m) with den := 0 }) (fun Q p' hh => by obtain ⟨_, _, _, e⟩ := hh; rw [e]; exact ⟨rfl, rfl⟩) (fun w1 F1 A1 c1 h1 => HH.out w1 F1 A1 c1 h1) (fun w1 F1 A1 c1 h1 r1 => heed_prop h1 (fromM 1 o id (1 + m)) A1 c1 rfl (fun w2 b2 => prop_new (h1.past b2) (fromM 1 o id (1 + m)) A1 c1 (by show p.pro < 1 + m; rw [HP.out.pr]; exact hc) (by show 1 + m ≤ _; omega) HPG.out.L HPG.out.com))).mono ?_
            rintro e w9 ⟨Q, p', A, c, ⟨A9, c9, rfl, rfl⟩, rfl, o9, n9, -⟩
            obtain ⟨g, rfl, -, hg⟩ := o9.some (by simp)
            have k0 : w9.cell? ⟨g, 0, none⟩ = some (.int .i64 3) := (o9.cell rfl (i := 0) rfl).1
            have k2 : w9.cell? ⟨g, 2, none⟩ = some (.int .i64 o) := (o9.cell rfl (i := 2) rfl).1
            have k4 : w9.cell? ⟨g, 4, none⟩ = some (.int .i64 (1 + m)) := (o9.cell rfl (i := 4) rfl).1
            have k5 : w9.cell? ⟨g, 5, none⟩ = some (.int .i64 0) := by
              have := (o9.cell rfl (i := 5) (u := .int .i64 p.last) rfl).1
              rw [HP.out.la] at this
              exact this
            have k8 : w9.cell? ⟨g, 8, none⟩ = some (.slice A9 0 c9) := (o9.cell rfl (i := 8) rfl).1
            have P9 : Hid (Pm id n (1 + m) { quitP (gotP p (fromM 1 o id (1 + m))) (1 + m) with den := 0 }) := Lib.hid (HPG.out.vote (1 + m))
            have N9 := Lib.hid n9
            have D9 : Hid (Ds w9 d ({ quitP (gotP p (fromM 1 o id (1 + m))) (1 + m) with den := 0 } : Np).boot (1 + m)) := Lib.hid (by have := n9.disk; rw [P9.out.pr] at this; exact this)
            clear o9 n9 N6 HG HH HM
            go_wp2_with fail
            refine (view_c w9 d _ _ D9.out).mono ?_
            rintro e w10 ⟨rfl, rfl⟩
            go_wp2_with fail
            go_roundw
            case rel => exact ⟨k + 1, (1 + m), { quitP (gotP p (fromM 1 o id (1 + m))) (1 + m) with den := 0 }, rfl, by go_num, by omega, by omega, by omega, by omega, P9, N9⟩
            case measure => simp [intOf]; omega
      · obtain rfl : k = 20 := by omega
        go_wp2_with fail
        obtain ⟨F9, h9, -⟩ := NK.out.ex
        have H9 := Lib.hid h9
        have B9 := Lib.hid NK.out.bel
        clear h9 NK
        refine (ndView_out H9.out HP.out.out).mono ?_
        rintro e w9 ⟨rfl, b9⟩
        have H10 := Lib.hid (H9.out.past b9)
        have B10 := Lib.hid (B9.out.trans (b9.mono B9.out.size))
        clear b9 H9 B9
        go_wp2_with fail
        refine (ndGood_out H10.out HP.out.out).mono ?_
        rintro e w11 ⟨rfl, b11⟩
        have B11 := Lib.hid (B10.out.trans (b11.mono B10.out.size))
        clear b11
        go_wp2_with fail
        go_ret
        exact ⟨by simp, B11.out⟩
    · obtain rfl : k = len0 := by omega
      go_wp2_with fail
      obtain ⟨F9, h9, -⟩ := NK.out.ex
      have H9 := Lib.hid h9
      have B9 := Lib.hid NK.out.bel
      clear h9 NK
      refine (ndView_out H9.out HP.out.out).mono ?_
      rintro e w9 ⟨rfl, b9⟩
      have H10 := Lib.hid (H9.out.past b9)
      have B10 := Lib.hid (B9.out.trans (b9.mono B9.out.size))
      clear b9 H9 B9
      go_wp2_with fail
      refine (ndGood_out H10.out HP.out.out).mono ?_
      rintro e w11 ⟨rfl, b11⟩
      have B11 := Lib.hid (B10.out.trans (b11.mono B10.out.size))
      clear b11
      go_wp2_with fail
      go_ret
      exact ⟨by simp, B11.out⟩

set_option maxRecDepth 100000 in
theorem NodePromise_bad (w : World) (ht : Tab w) (id n : Int) (A0 : Option Addr) (len0 cap0 : Nat) (hb : n < 3 ∨ 7 < n ∨ id < 1 ∨ n < id) :
    Calls Tryz.prog 4 #[.int .i64 id, .int .i64 n, .slice A0 len0 cap0] w fun e w' => e = .returned (.bool true) ∧ Below w.heap.size w w' := by
  have HT := Lib.hid ht
  clear ht
  rcases (by omega : (n < 3) ∨ (¬ n < 3 ∧ 7 < n) ∨ (¬ n < 3 ∧ ¬ 7 < n ∧ id < 1) ∨ (¬ n < 3 ∧ ¬ 7 < n ∧ ¬ id < 1 ∧ n < id)) with h | ⟨h0, h⟩ | ⟨h0, h1, h⟩ | ⟨h0, h1, h2, h⟩
  all_goals
    clear hb
    go_enter Tryz.func4, Tryz.ntmps4
    go_wp2_with fail
    refine (begunN_c w HT.out).mono ?_
    rintro e w1 ⟨rfl, b1⟩
    have b1' := Lib.hid b1
    clear b1
    go_wp2_with fail
    go_ret
    exact ⟨rfl, b1'.out⟩
theorem NodePromise_w (w : World) (ht : Tab w) (id n : Int) (A0 : Option Addr) (len0 cap0 : Nat) (z0 : List Int) (h0 : Rd w w.heap.size A0 cap0 1 len0 (is z0)) :
    Calls Tryz.prog 4 #[.int .i64 id, .int .i64 n, .slice A0 len0 cap0] w fun e w' => e = .returned (.bool true) ∧ Below w.heap.size w w' := by
  by_cases hb : n < 3 ∨ 7 < n ∨ id < 1 ∨ n < id
  · exact NodePromise_bad w ht id n A0 len0 cap0 hb
  · exact NodePromise_good w ht id n A0 len0 cap0 z0 h0 (by omega) (by omega) (by omega) (by omega)
end Go.Proofs.YtfolifhgmdglaaaGreatDoor

