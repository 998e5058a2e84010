/- The walk of GramBoots. -/
import Derived.Test.YtfijjdahoimoeaaDoorSeg13
import Derived.Test.YtfijjdahoimoeaaDoorSeg15
import Derived.Test.YtfijjdahoimoeaaDoorSeg3
import Derived.Lib.MinMax
import Derived.BigQuiet
import Derived.Deep.QuietTactic
import Derived.WalkSmall
namespace Go.Proofs.YtfijjdahoimoeaaDoor
open Go.RowKit

theorem and_low (x : Int) (m : Nat) (hm : m < 4611686018427387904) : 0 ≤ bits .and .i64 x (m : Int) ∧ bits .and .i64 x (m : Int) ≤ m := by
  have h1 : (BitVec.ofInt 64 (m : Int)).toNat = m := by rw [BitVec.toNat_ofInt]; omega
  have h2 : (BitVec.ofInt 64 x &&& BitVec.ofInt 64 (m : Int)).toNat ≤ m := by
    rw [BitVec.toNat_and, h1]; exact Nat.and_le_right
  have e : bits .and .i64 x (m : Int) = IntKind.i64.wrap ((BitVec.ofInt 64 x &&& BitVec.ofInt 64 (m : Int)).toNat : Nat) := rfl
  rw [e, IntKind.wrap_i64]
  omega

/-- Eight cells: none, then each process's greatest start. -/
def tops (L : List Oth) : List Value := .int .i64 0 :: L.map fun o => .int .i64 o.boot
theorem tops_at {L : List Oth} {k : Nat} (h : k < L.length) {o : Oth} (ho : L.getD k PGram.zero = o) : (tops L)[k + 1]? = some (.int .i64 o.boot) := by
  unfold tops
  rw [List.getElem?_cons_succ, List.getElem?_map, PGram.getD_eq h, ho]; rfl
theorem tops_set {L : List Oth} (k : Nat) (o : Oth) : (tops L).set (k + 1) (.int .i64 o.boot) = tops (L.set k o) := by
  unfold tops
  rw [List.set_cons_succ, List.map_set]
theorem tops_same {L : List Oth} {k : Nat} (h : k < L.length) {o : Oth} (ho : L.getD k PGram.zero = o) : (tops L).set (k + 1) (.int .i64 o.boot) = tops L := by
  have := tops_at h ho
  obtain ⟨h1, h2⟩ := List.getElem?_eq_some_iff.1 this
  rw [← h2, List.set_getElem_self]

def bM (fr b : Int) : Msg := ⟨12, fr, 1, b, 0, 0, 0, 0, [], 0, 0, 0, false⟩

theorem bM_may {r : Nat} {q : Int} (h : r < 3) (h0 : 0 ≤ q) (h1 : q ≤ 15) : PMsg.may (bM (2 + (r : Int)) (1 + q)) = true := by
  rw [PMsg.may_iff]
  unfold PMsg.May bM
  refine ⟨⟨?_, ?_⟩, ⟨?_, ?_⟩, ⟨?_, ?_⟩, ?_, ⟨?_, ?_⟩, ⟨?_, ?_⟩, ⟨?_, ?_⟩, ⟨?_, ?_⟩, ⟨?_, ?_⟩, ⟨?_, ?_⟩, ⟨?_, ?_⟩, ⟨?_, ?_⟩, ?_⟩ <;> first | (dsimp only; omega) | (exact ⟨by decide, fun e he => by cases he⟩) | (dsimp only; decide)

set_option maxHeartbeats 8000000 in
set_option maxRecDepth 100000 in
theorem GramBoots_w (w : World) (ht : Tab w) (A : Option Addr) (c n : Nat) (l : List Int) (h : Rd w w.heap.size A c 1 n (is l)) :
    Calls Tryd.prog 4 #[.slice A n c] w fun e w' => e = .returned (.bool true) ∧ Below w.heap.size w w' := by
  have HT := Lib.hid ht
  have HR := Lib.hid h
  have HC := Lib.hid h.le
  clear ht h
  go_enter Tryd.func4, Tryd.ntmps4
  go_wp2_with fail
  refine (begunG_c w HT.out).mono ?_
  rintro x w1 ⟨rfl, b1⟩
  go_wp2_with fail
  refine (gNew_gs b1 1 (by decide)).mono ?_
  rintro x w2 ⟨rfl, g2', -⟩
  have G2s := Lib.hid g2'.bel.size
  have b3 := (Below.refl w2.heap.size w2).alloc (Nat.le_refl _) (.cells #[.int .i64 0, .int .i64 0, .int .i64 0, .int .i64 0, .int .i64 0, .int .i64 0, .int .i64 0, .int .i64 0] 26)
  have G3 := Lib.hid (g2'.past b3)
  have K3 := Lib.hid (show Blk (w2.alloc (.cells #[.int .i64 0, .int .i64 0, .int .i64 0, .int .i64 0, .int .i64 0, .int .i64 0, .int .i64 0, .int .i64 0] 26)) w2.heap.size 26 (tops PGram.zeroL) from Blk.new w2 #[.int .i64 0, .int .i64 0, .int .i64 0, .int .i64 0, .int .i64 0, .int .i64 0, .int .i64 0, .int .i64 0] 26)
  clear g2' b1 b3
  go_wp2_with fail
  generalize w1.heap.size = g at *
  generalize w2.alloc (.cells #[.int .i64 0, .int .i64 0, .int .i64 0, .int .i64 0, .int .i64 0, .int .i64 0, .int .i64 0, .int .i64 0] 26) = w3 at *
  have HGT := Lib.hid (show w.heap.size ≤ w2.heap.size from G2s.out)
  generalize w2.heap.size = gt at *
  go_loopw [6] (fun s6 wr => ∃ (i : Nat) (L : List Oth), i ≤ n ∧ i ≤ 30 ∧ s6 = .int .i64 i ∧ Hid (Gs w wr g 1 L) ∧ Hid (Blk wr gt 26 (tops L))) (fun s6 _ => n - (intOf s6).toNat)
  case atStart => exact ⟨0, PGram.zeroL, by omega, by omega, rfl, G3, K3⟩
  case round =>
    clear G3 K3
    obtain ⟨i, L, hin, hi30, rfl, G, K⟩ := hrel
    by_cases h1 : i < n
    · by_cases h2 : i < 30
      · obtain ⟨bo, oo, x, rfl, hc, hd, hx⟩ := (HR.out.below G.out.bel).int h1
        clear hd hx
        obtain ⟨r, hr3, hr⟩ : ∃ r : Nat, r < 3 ∧ Int.tmod (i : Int) 3 = (r : Int) := ⟨i % 3, Nat.mod_lt _ (by decide), by
          rw [Int.tmod_eq_emod_of_nonneg (by omega)]; omega⟩
        obtain ⟨q, hq⟩ : ∃ q, bits .and .i64 x 15 = q := ⟨_, rfl⟩
        obtain ⟨q0, q1⟩ : 0 ≤ q ∧ q ≤ 15 := by rw [← hq]; exact and_low x 15 (by decide)
        have hL := G.out.gm.2
        obtain ⟨o, ho⟩ : ∃ o, L.getD (r + 1) PGram.zero = o := ⟨_, rfl⟩
        have HO := Lib.hid ho
        have HL7 := Lib.hid (show r + 1 < L.length by omega)
        clear ho hL
        have HM := Lib.hid (bM_may (r := r) (q := q) hr3 q0 q1)
        have HS := Lib.hid ((dec_said (bM (2 + (r : Int)) (1 + q))).trans (if_pos HM.out))
        have HEL := Lib.hid (PMsg.enc_len (bM (2 + (r : Int)) (1 + q)))
        have HEB := Lib.hid (PMsg.enc_byte (bM (2 + (r : Int)) (1 + q)))
        have HA := Lib.hid (show PGram.at_ L (2 + (r : Int)) = o by rw [show 2 + (r : Int) = ((r + 1 : Nat) : Int) + 1 by omega, PGram.at_k]; exact HO.out)
        have HP := Lib.hid (fun o' => show PGram.put L (2 + (r : Int)) o' = L.set (r + 1) o' by rw [show 2 + (r : Int) = ((r + 1 : Nat) : Int) + 1 by omega, PGram.put_k])
        obtain ⟨ob, on, oc, os⟩ := o
        clear HM
        go_wp2_with fail
        clear hc
        refine (show Calls _ _ #[.agg #[.int .i64 12, .int .i64 (2 + (r : Int)), .int .i64 1, .int .i64 (1 + q), .int .i64 0, .int .i64 0, .int .i64 0, .int .i64 0, .slice none 0 0, .int .i64 0, .int .i64 0, .int .i64 0, .bool false]] wr _ from rBytes_c wr (bM (2 + (r : Int)) (1 + q)) none 0 (Rd.nil _ _ _)).mono ?_
        generalize PMsg.enc (bM (2 + (r : Int)) (1 + q)) = E at *
        rintro x2 w4 ⟨A4, c4, rfl, o4, b4⟩
        have G4 := Lib.hid (G.out.past b4)
        have K4 := Lib.hid (K.out.past b4)
        have R4 := Lib.hid (Rd.of_own o4)
        clear o4 b4 G K
        go_wp2_with fail
        by_cases hlt : 1 + q < ob
        · have HE := Lib.hid (show PGram.herr 1 L (some (bM (2 + (r : Int)) (1 + q))) = 7 by
            unfold PGram.herr
            simp only [bM, HA.out, ne_eq, not_true_eq_false, if_false, hlt, if_true])
          have HX := Lib.hid (show max ob (1 + q) = ob by omega)
          refine (hear_no G4.out.gm R4.out HEB.out (G4.out.tab HT.out) (by have := HEL.out; omega) HS.out HE.out (by decide)).mono ?_
          rintro x3 w5 ⟨A5, c5, rfl, g5, t5⟩
          have b6 := (Below.refl w5.heap.size w5).alloc (Nat.le_refl _) (.cells #[.int .i64 0, .int .i64 0, .int .i64 0, .int .i64 0, .int .i64 0, .int .i64 0, .int .i64 0, .int .i64 0, .slice A5 0 c5, .int .i64 0, .int .i64 0, .int .i64 0, .bool false] 30)
          have G6 := Lib.hid ((G4.out.go g5 t5).past b6)
          have K6 := Lib.hid (Blk.past (G4.out.blk K4.out (by decide) t5) b6)
          clear g5 t5 b6 G4 K4 R4
          have k6 : (w5.alloc (.cells #[.int .i64 0, .int .i64 0, .int .i64 0, .int .i64 0, .int .i64 0, .int .i64 0, .int .i64 0, .int .i64 0, .slice A5 0 c5, .int .i64 0, .int .i64 0, .int .i64 0, .bool false] 30)).cell? ⟨gt, 2 + r, none⟩ = some (.int .i64 ob) := by
            rw [show 2 + r = r + 1 + 1 by omega]
            exact Blk.cell (w := w5.alloc (.cells #[.int .i64 0, .int .i64 0, .int .i64 0, .int .i64 0, .int .i64 0, .int .i64 0, .int .i64 0, .int .i64 0, .slice A5 0 c5, .int .i64 0, .int .i64 0, .int .i64 0, .bool false] 30)) K6.out (tops_at HL7.out HO.out)
          have f6 := Blk.free (w := w5.alloc (.cells #[.int .i64 0, .int .i64 0, .int .i64 0, .int .i64 0, .int .i64 0, .int .i64 0, .int .i64 0, .int .i64 0, .slice A5 0 c5, .int .i64 0, .int .i64 0, .int .i64 0, .bool false] 30)) K6.out (2 + r)
          have hge : decide (ob ≤ 1 + q) = false := decide_eq_false (by omega)
          clear hlt
          go_wp2_with fail
          have K7 := Lib.hid (show Blk ((w5.alloc (.cells #[.int .i64 0, .int .i64 0, .int .i64 0, .int .i64 0, .int .i64 0, .int .i64 0, .int .i64 0, .int .i64 0, .slice A5 0 c5, .int .i64 0, .int .i64 0, .int .i64 0, .bool false] 30)).setCell ⟨gt, 2 + r, none⟩ (.int .i64 (max ob (1 + q)))) gt 26 (tops L) by
            rw [HX.out, show 2 + r = r + 1 + 1 by omega]
            have := Blk.set (w := w5.alloc (.cells #[.int .i64 0, .int .i64 0, .int .i64 0, .int .i64 0, .int .i64 0, .int .i64 0, .int .i64 0, .int .i64 0, .slice A5 0 c5, .int .i64 0, .int .i64 0, .int .i64 0, .bool false] 30)) K6.out (r + 1 + 1) (.int .i64 ob)
            rw [tops_same HL7.out HO.out] at this
            exact this)
          have HBV := Lib.hid (show PGram.bootOf L (2 + (r : Int)) = max ob (1 + q) by
            rw [HX.out]
            unfold PGram.bootOf
            rw [if_pos (show PGram.isId (2 + (r : Int)) = true from decide_eq_true (by omega)), HA.out])
          have G7 := Lib.hid (Gs.other G6.out K6.out (by decide) HGT.out (grown_set _ gt (2 + r) (.int .i64 (max ob (1 + q)))))
          have K6q := k6
          clear G6 K6 k6 f6
          have HC7 := Lib.hid (show ((w5.alloc (.cells #[.int .i64 0, .int .i64 0, .int .i64 0, .int .i64 0, .int .i64 0, .int .i64 0, .int .i64 0, .int .i64 0, .slice A5 0 c5, .int .i64 0, .int .i64 0, .int .i64 0, .bool false] 30)).setCell ⟨gt, 2 + r, none⟩ (.int .i64 (max ob (1 + q)))).cell? ⟨gt, 2 + r, none⟩ = some (.int .i64 (max ob (1 + q))) from World.cell?_setCell_same _ _ _ K6q)
          generalize (w5.alloc (.cells #[.int .i64 0, .int .i64 0, .int .i64 0, .int .i64 0, .int .i64 0, .int .i64 0, .int .i64 0, .int .i64 0, .slice A5 0 c5, .int .i64 0, .int .i64 0, .int .i64 0, .bool false] 30)).setCell ⟨gt, 2 + r, none⟩ (.int .i64 (max ob (1 + q))) = w7 at *
          have k7 : w7.cell? ⟨gt, 2 + r, none⟩ = some (.int .i64 (max ob (1 + q))) := by
            exact HC7.out
          have hB : ∀ v, Calls Tryd.prog 19 #[.pointer (some ⟨g, 0, none⟩), .int .i64 (2 + (r : Int))] (w7.drewN v) fun e w' => e = .returned (.int .i64 (max ob (1 + q))) ∧ w' = w7.drewN v := fun v => (boot_c (w7.drewN v) g 1 _ G7.out.gm _).mono fun e w' h => ⟨by rw [h.1, HBV.out], h.2.symm⟩
          go_quiet (first | (go_at_call 19; refine Calls.quiet_of_same (hB _)))
          go_wp2_with fail
          go_roundw
          case rel => exact ⟨i + 1, _, by omega, by omega, by go_num, Lib.hid (G7.out.past (below_drewN (Below.refl _ _) _)), Lib.hid (K7.out.past (below_drewN (Below.refl _ _) _))⟩
          case measure => simp [intOf]; omega
        · have HE := Lib.hid (show PGram.herr 1 L (some (bM (2 + (r : Int)) (1 + q))) = 0 by
            unfold PGram.herr
            simp only [bM, HA.out, ne_eq, not_true_eq_false, if_false, hlt])
          have HF := Lib.hid (show PGram.hleft 1 L (some (bM (2 + (r : Int)) (1 + q))) = L.set (r + 1) ⟨1 + q, on, oc, os⟩ by
            unfold PGram.hleft
            simp only [bM, HA.out, HP.out, ne_eq, not_true_eq_false, if_false, hlt])
          have HX := Lib.hid (show max ob (1 + q) = 1 + q by omega)
          refine (show Calls Tryd.prog 11 #[.pointer (some ⟨g, 0, none⟩), .slice A4 E.length c4] w4 (fun x w' => ∃ (A' : Option Addr) (c' : Nat), x = .returned (.tuple #[.agg #[.int .i64 12, .int .i64 (2 + (r : Int)), .int .i64 1, .int .i64 (1 + q), .int .i64 0, .int .i64 0, .int .i64 0, .int .i64 0, .slice A' 0 c', .int .i64 0, .int .i64 0, .int .i64 0, .bool false], .int .i64 0]) ∧ Gm w' g 1 (L.set (r + 1) ⟨1 + q, on, oc, os⟩) ∧ Touch [g] w4 w') from (hear_ok G4.out.gm R4.out HEB.out (G4.out.tab HT.out) (by have := HEL.out; omega) HS.out rfl HE.out).mono fun _ _ ⟨A', c', h1, _, h2, h3⟩ => ⟨A', c', h1, by rw [← HF.out]; exact h2, h3⟩).mono ?_
          rintro x3 w5 ⟨A5, c5, rfl, g5, t5⟩
          have b6 := (Below.refl w5.heap.size w5).alloc (Nat.le_refl _) (.cells #[.int .i64 12, .int .i64 (2 + (r : Int)), .int .i64 1, .int .i64 (1 + q), .int .i64 0, .int .i64 0, .int .i64 0, .int .i64 0, .slice A5 0 c5, .int .i64 0, .int .i64 0, .int .i64 0, .bool false] 30)
          have G6 := Lib.hid ((G4.out.go g5 t5).past b6)
          have K6 := Lib.hid (Blk.past (G4.out.blk K4.out (by decide) t5) b6)
          clear g5 t5 b6 G4 K4 R4
          have k6 : (w5.alloc (.cells #[.int .i64 12, .int .i64 (2 + (r : Int)), .int .i64 1, .int .i64 (1 + q), .int .i64 0, .int .i64 0, .int .i64 0, .int .i64 0, .slice A5 0 c5, .int .i64 0, .int .i64 0, .int .i64 0, .bool false] 30)).cell? ⟨gt, 2 + r, none⟩ = some (.int .i64 ob) := by
            rw [show 2 + r = r + 1 + 1 by omega]
            exact Blk.cell (w := w5.alloc (.cells #[.int .i64 12, .int .i64 (2 + (r : Int)), .int .i64 1, .int .i64 (1 + q), .int .i64 0, .int .i64 0, .int .i64 0, .int .i64 0, .slice A5 0 c5, .int .i64 0, .int .i64 0, .int .i64 0, .bool false] 30)) K6.out (tops_at HL7.out HO.out)
          have f6 := Blk.free (w := w5.alloc (.cells #[.int .i64 12, .int .i64 (2 + (r : Int)), .int .i64 1, .int .i64 (1 + q), .int .i64 0, .int .i64 0, .int .i64 0, .int .i64 0, .slice A5 0 c5, .int .i64 0, .int .i64 0, .int .i64 0, .bool false] 30)) K6.out (2 + r)
          have hge : decide (ob ≤ 1 + q) = true := decide_eq_true (by omega)
          clear hlt
          go_wp2_with fail
          have K7 := Lib.hid (show Blk ((w5.alloc (.cells #[.int .i64 12, .int .i64 (2 + (r : Int)), .int .i64 1, .int .i64 (1 + q), .int .i64 0, .int .i64 0, .int .i64 0, .int .i64 0, .slice A5 0 c5, .int .i64 0, .int .i64 0, .int .i64 0, .bool false] 30)).setCell ⟨gt, 2 + r, none⟩ (.int .i64 (max ob (1 + q)))) gt 26 (tops (L.set (r + 1) ⟨1 + q, on, oc, os⟩)) by
            rw [HX.out, show 2 + r = r + 1 + 1 by omega, ← tops_set]
            exact Blk.set (w := w5.alloc (.cells #[.int .i64 12, .int .i64 (2 + (r : Int)), .int .i64 1, .int .i64 (1 + q), .int .i64 0, .int .i64 0, .int .i64 0, .int .i64 0, .slice A5 0 c5, .int .i64 0, .int .i64 0, .int .i64 0, .bool false] 30)) K6.out (r + 1 + 1) (.int .i64 (1 + q)))
          have HBV := Lib.hid (show PGram.bootOf (L.set (r + 1) ⟨1 + q, on, oc, os⟩) (2 + (r : Int)) = max ob (1 + q) by
            rw [HX.out]
            unfold PGram.bootOf
            rw [if_pos (show PGram.isId (2 + (r : Int)) = true from decide_eq_true (by omega)), show 2 + (r : Int) = ((r + 1 : Nat) : Int) + 1 by omega, PGram.at_k, set_get HL7.out])
          have G7 := Lib.hid (Gs.other G6.out K6.out (by decide) HGT.out (grown_set _ gt (2 + r) (.int .i64 (max ob (1 + q)))))
          have K6q := k6
          clear G6 K6 k6 f6
          have HC7 := Lib.hid (show ((w5.alloc (.cells #[.int .i64 12, .int .i64 (2 + (r : Int)), .int .i64 1, .int .i64 (1 + q), .int .i64 0, .int .i64 0, .int .i64 0, .int .i64 0, .slice A5 0 c5, .int .i64 0, .int .i64 0, .int .i64 0, .bool false] 30)).setCell ⟨gt, 2 + r, none⟩ (.int .i64 (max ob (1 + q)))).cell? ⟨gt, 2 + r, none⟩ = some (.int .i64 (max ob (1 + q))) from World.cell?_setCell_same _ _ _ K6q)
          generalize (w5.alloc (.cells #[.int .i64 12, .int .i64 (2 + (r : Int)), .int .i64 1, .int .i64 (1 + q), .int .i64 0, .int .i64 0, .int .i64 0, .int .i64 0, .slice A5 0 c5, .int .i64 0, .int .i64 0, .int .i64 0, .bool false] 30)).setCell ⟨gt, 2 + r, none⟩ (.int .i64 (max ob (1 + q))) = w7 at *
          have k7 : w7.cell? ⟨gt, 2 + r, none⟩ = some (.int .i64 (max ob (1 + q))) := by
            exact HC7.out
          have hB : ∀ v, Calls Tryd.prog 19 #[.pointer (some ⟨g, 0, none⟩), .int .i64 (2 + (r : Int))] (w7.drewN v) fun e w' => e = .returned (.int .i64 (max ob (1 + q))) ∧ w' = w7.drewN v := fun v => (boot_c (w7.drewN v) g 1 _ G7.out.gm _).mono fun e w' h => ⟨by rw [h.1, HBV.out], h.2.symm⟩
          go_quiet (first | (go_at_call 19; refine Calls.quiet_of_same (hB _)))
          go_wp2_with fail
          go_roundw
          case rel => exact ⟨i + 1, _, by omega, by omega, by go_num, Lib.hid (G7.out.past (below_drewN (Below.refl _ _) _)), Lib.hid (K7.out.past (below_drewN (Below.refl _ _) _))⟩
          case measure => simp [intOf]; omega
      · go_wp2_with fail
        go_ret
        exact ⟨rfl, G.out.bel⟩
    · go_wp2_with fail
      go_ret
      exact ⟨rfl, G.out.bel⟩
end Go.Proofs.YtfijjdahoimoeaaDoor

