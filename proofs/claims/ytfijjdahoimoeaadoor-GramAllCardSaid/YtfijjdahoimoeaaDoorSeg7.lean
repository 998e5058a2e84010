/- Contract of Hear. -/
import Derived.Test.YtfijjdahoimoeaaDoorSeg2
import Derived.Test.YtfijjdahoimoeaaDoorSeg6
import Derived.BigQuiet
import Derived.Deep.QuietTactic
import Derived.WalkSmall
import Derived.Test.YtfijjdahoimoeaaDoorSeg3
import Derived.Test.YtfijjdahoimoeaaDoorSeg1
import Derived.Lib.MinMax
namespace Go.Proofs.YtfijjdahoimoeaaDoor
open Go.RowKit

/-- Blocks that are made on the way may be written, too. -/
theorem Touch.new {S S2 : List Nat} {a b c : World} (h : Touch S a b) (k : Touch S2 b c) (hs : ∀ q ∈ S2, q ∈ S ∨ a.heap.size ≤ q) : Touch S a c :=
  ⟨k.os.trans h.os, k.tape.trans h.tape, k.output.trans h.output, Nat.le_trans h.size k.size, fun i hi hn => (k.block i (Nat.lt_of_lt_of_le hi h.size) fun hm => by
    rcases hs i hm with h1 | h1
    · exact hn h1
    · omega).trans (h.block i hi hn)⟩
theorem Touch.draws {S : List Nat} {a b : World} (h : Touch S a b) (n : Nat) : Touch S a (b.drewN n) := ⟨h.os, h.tape, h.output, h.size, h.block⟩

/-- The message or a zero one, what is told; the gram behind it. -/
def HearPost (w : World) (g : Nat) (me : Int) (L : List Oth) (r : Option Msg) (x : Ending) (w' : World) : Prop :=
  ∃ (A' : Option Addr) (c' : Nat), x = .returned (.tuple #[mv (PGram.hmsg me L r) A' c', .int .i64 (PGram.herr me L r)]) ∧
    w'.ownsRow w.heap.size 70 7 (.slice A' (PGram.hmsg me L r).es.length c') (PGram.hmsg me L r).es.length (els (PGram.hmsg me L r).es) ∧ Gm w' g me (PGram.hleft me L r) ∧ Touch [g] w w'

set_option maxRecDepth 100000 in
theorem hear_nil (w : World) (A : Option Addr) (n c : Nat) :
    Calls Tryd.prog 11 #[.pointer none, .slice A n c] w fun x w' => x = .returned (.tuple #[mv zeroM none 0, .int .i64 5]) ∧ Below w.heap.size w w' := by
  have b1 := (Below.refl w.heap.size w).alloc (Nat.le_refl _) (.cells #[.int .i64 0, .int .i64 0, .int .i64 0, .int .i64 0, .int .i64 0, .int .i64 0, .int .i64 0, .int .i64 0, .slice none 0 0, .int .i64 0, .int .i64 0, .int .i64 0, .bool false] 30)
  have K0 := Blk.new w #[.int .i64 0, .int .i64 0, .int .i64 0, .int .i64 0, .int .i64 0, .int .i64 0, .int .i64 0, .int .i64 0, .slice none 0 0, .int .i64 0, .int .i64 0, .int .i64 0, .bool false] 30
  go_enter Tryd.func11, Tryd.ntmps11
  go_wp2_with fail
  generalize w.alloc (.cells #[.int .i64 0, .int .i64 0, .int .i64 0, .int .i64 0, .int .i64 0, .int .i64 0, .int .i64 0, .int .i64 0, .slice none 0 0, .int .i64 0, .int .i64 0, .int .i64 0, .bool false] 30) = w1 at *
  have K1 := Lib.hid (show Blk w1 w.heap.size 30 (mcs zeroM none 0) from K0)
  have BL1 := Lib.hid b1
  clear K0 b1
  exact bodyPost_ret (v := .tuple #[mv zeroM none 0, .int .i64 5]) (results_rowB rfl _ _ w.heap.size _ _ _ _ rfl rfl K1.out Tryd.underlying30 rfl (by kernel_rfl)) rfl ⟨rfl, BL1.out⟩

/-- What Decode tells where there is a message: its entries are its own. -/
theorem wDecode_own {w : World} {B : Nat} {A : Option Addr} {c n : Nat} {l : List Int} {m : Msg} (h : Rd w B A c 1 n (bs l)) (hb : isB l) (ht : Tab w) (hn : n ≤ 1000000) (hd : PMsg.dec l = some m) :
    Calls Tryd.prog 22 #[.slice A n c] w fun x w' => ∃ (A' : Option Addr) (c' : Nat), x = .returned (.tuple #[.agg #[.int .i64 m.kind, .int .i64 m.fr, .int .i64 m.dst, .int .i64 m.boot, .int .i64 m.view, .int .i64 m.last, .int .i64 m.mem, .int .i64 m.pos, .slice A' m.es.length c', .int .i64 m.com, .int .i64 m.num, .int .i64 m.clk, .bool m.yes], .int .i64 0]) ∧ w'.ownsRow w.heap.size 70 7 (.slice A' m.es.length c') m.es.length (els m.es) ∧ Below w.heap.size w w' := by
  have := wDecode_c w B A c n l h hb ht hn
  rw [hd] at this
  exact this

set_option maxHeartbeats 4000000 in
set_option maxRecDepth 100000 in
theorem hear_c (w : World) (g : Nat) (me : Int) (L : List Oth) (A : Option Addr) (c n : Nat) (l : List Int) (hg : Gm w g me L) (h : Rd w w.heap.size A c 1 n (bs l)) (hb : isB l) (ht : Tab w) (hn : n ≤ 1000000) :
    Calls Tryd.prog 11 #[.pointer (some ⟨g, 0, none⟩), .slice A n c] w (HearPost w g me L (PMsg.dec l)) := by
  have HMAY := Lib.hid (fun m (h : PMsg.dec l = some m) => (PMsg.may_iff m).1 (PMsg.dec_inv hb h).1)
  have b1 := (Below.refl w.heap.size w).alloc (Nat.le_refl _) (.cells #[.int .i64 0, .int .i64 0, .int .i64 0, .int .i64 0, .int .i64 0, .int .i64 0, .int .i64 0, .int .i64 0, .slice none 0 0, .int .i64 0, .int .i64 0, .int .i64 0, .bool false] 30)
  have K0 := Blk.new w #[.int .i64 0, .int .i64 0, .int .i64 0, .int .i64 0, .int .i64 0, .int .i64 0, .int .i64 0, .int .i64 0, .slice none 0 0, .int .i64 0, .int .i64 0, .int .i64 0, .bool false] 30
  have R0 := Lib.hid h
  have HB := Lib.hid hb
  have HT := Lib.hid ht
  have HG := Lib.hid hg
  have HGL := Lib.hid hg.1.lt
  clear h hb ht hg
  cases hd : PMsg.dec l with
  | none =>
    go_enter Tryd.func11, Tryd.ntmps11
    go_wp2_with fail
    generalize w.alloc (.cells #[.int .i64 0, .int .i64 0, .int .i64 0, .int .i64 0, .int .i64 0, .int .i64 0, .int .i64 0, .int .i64 0, .slice none 0 0, .int .i64 0, .int .i64 0, .int .i64 0, .bool false] 30) = w1 at *
    have K1 := Lib.hid (show Blk w1 w.heap.size 30 (mcs zeroM none 0) from K0)
    have BL1 := Lib.hid b1
    clear K0 b1
    refine (wDecode_none (R0.out.past BL1.out) HB.out (HT.out.past BL1.out) hn hd).mono ?_
    clear hd HMAY
    rintro x w2 ⟨A1, c1, rfl, b2⟩
    have BL2 := Lib.hid (BL1.out.trans (b2.mono BL1.out.size))
    have K2 := Lib.hid (K1.out.past b2)
    have b3 := (Below.refl w2.heap.size w2).alloc (Nat.le_refl _) (.cells #[.int .i64 0, .int .i64 0, .int .i64 0, .int .i64 0, .int .i64 0, .int .i64 0, .int .i64 0, .int .i64 0, .slice A1 0 c1, .int .i64 0, .int .i64 0, .int .i64 0, .bool false] 30)
    have BL3 := Lib.hid (BL2.out.trans (b3.mono BL2.out.size))
    have K3 := Lib.hid (K2.out.past b3)
    clear b2 b3 K2 K1 BL1 BL2
    go_wp2_with fail
    generalize w2.alloc (.cells #[.int .i64 0, .int .i64 0, .int .i64 0, .int .i64 0, .int .i64 0, .int .i64 0, .int .i64 0, .int .i64 0, .slice A1 0 c1, .int .i64 0, .int .i64 0, .int .i64 0, .bool false] 30) = w3 at *
    go_quiet (fail)
    go_wp2_with ((with_reducible show wpList _ _ _ ((⟨none, Op.store 30 (.tmp 4) _, _, _, _, _⟩ : Oper) :: _) _ _); go_must (refine wpList_store_row rfl 30 (.tmp 4) (.tmp 28) rfl w.heap.size _ rfl rfl _ _ K3.out (by kernel_rfl) (by rfl) (by kernel_rfl) ?_))
    refine bodyPost_ret (v := .tuple #[mv zeroM none 0, .int .i64 1]) (results_rowB rfl _ _ w.heap.size _ _ _ _ rfl rfl (Blk.row (w := w3.drewN _) K3.out #[.int .i64 0, .int .i64 0, .int .i64 0, .int .i64 0, .int .i64 0, .int .i64 0, .int .i64 0, .int .i64 0, .slice none 0 0, .int .i64 0, .int .i64 0, .int .i64 0, .bool false]) Tryd.underlying30 rfl (by kernel_rfl)) rfl ?_
    exact ⟨none, 0, rfl, World.ownsRow_nil _ _ _ _, Gm.far (w := w3.drewN _) (show Gm w3 g me L from HG.out.past BL3.out) (Touch.of_grown (grown_row _ _ _)) (by simpa using Nat.ne_of_lt HGL.out), ((Touch.of_below BL3.out).draws _).new (Touch.of_grown (grown_row _ _ _)) (by simp)⟩
  | some m =>
    have HM := Lib.hid (HMAY.out m hd)
    have HLN := Lib.hid (show L.length = 7 from HG.out.2)
    obtain ⟨k, hk, hfr⟩ : ∃ k : Nat, k < 7 ∧ m.fr = (k : Int) + 1 := ⟨(m.fr - 1).toNat, by have := HM.out.2.1; omega, by have := HM.out.2.1; omega⟩
    have HF := Lib.hid hfr
    obtain ⟨o, ho⟩ : ∃ o, L.getD k PGram.zero = o := ⟨_, rfl⟩
    have HA := Lib.hid (show PGram.at_ L m.fr = o by rw [hfr, PGram.at_k]; exact ho)
    have HP := Lib.hid (show ∀ o', PGram.put L m.fr o' = L.set k o' by intro o'; rw [hfr, PGram.put_k])
    have HO := Lib.hid ho
    clear hfr ho HMAY HM
    by_cases hme : m.dst = me
    · have t1 : (m.dst != me) = false := by simp [hme]
      have hme' := Lib.hid hme
      clear hme
      by_cases hlt : m.boot < o.boot
      · have t2 : decide (m.boot < o.boot) = true := decide_eq_true hlt
        have HE := Lib.hid (show PGram.herr me L (some m) = 7 ∧ PGram.hmsg me L (some m) = zeroM ∧ PGram.hleft me L (some m) = L by
          unfold PGram.herr PGram.hmsg PGram.hleft
          simp only [hme'.out, ne_eq, not_true_eq_false, if_false, HA.out, hlt, if_true, and_self])
        clear hlt
        go_enter Tryd.func11, Tryd.ntmps11
        go_wp2_with fail
        generalize w.alloc (.cells #[.int .i64 0, .int .i64 0, .int .i64 0, .int .i64 0, .int .i64 0, .int .i64 0, .int .i64 0, .int .i64 0, .slice none 0 0, .int .i64 0, .int .i64 0, .int .i64 0, .bool false] 30) = w1 at *
        have K1 := Lib.hid (show Blk w1 w.heap.size 30 (mcs zeroM none 0) from K0)
        have BL1 := Lib.hid b1
        clear K0 b1
        refine (wDecode_own (R0.out.past BL1.out) HB.out (HT.out.past BL1.out) hn hd).mono ?_
        clear hd
        rintro x w2 ⟨A1, c1, rfl, o2, b2⟩
        have BL2 := Lib.hid (BL1.out.trans (b2.mono BL1.out.size))
        have K2 := Lib.hid (K1.out.past b2)
        have O2 := Lib.hid (own_base o2 (show w.heap.size ≤ w1.heap.size from BL1.out.size))
        have b3 := (Below.refl w2.heap.size w2).alloc (Nat.le_refl _) (.cells #[.int .i64 m.kind, .int .i64 m.fr, .int .i64 m.dst, .int .i64 m.boot, .int .i64 m.view, .int .i64 m.last, .int .i64 m.mem, .int .i64 m.pos, .slice A1 m.es.length c1, .int .i64 m.com, .int .i64 m.num, .int .i64 m.clk, .bool m.yes] 30)
        have BL3 := Lib.hid (BL2.out.trans (b3.mono BL2.out.size))
        have K3 := Lib.hid (K2.out.past b3)
        have O3 := Lib.hid (own_touch O2.out (S := []) (Touch.of_below b3) (by simp))
        have KM3 := Lib.hid (show Blk (w2.alloc (.cells #[.int .i64 m.kind, .int .i64 m.fr, .int .i64 m.dst, .int .i64 m.boot, .int .i64 m.view, .int .i64 m.last, .int .i64 m.mem, .int .i64 m.pos, .slice A1 m.es.length c1, .int .i64 m.com, .int .i64 m.num, .int .i64 m.clk, .bool m.yes] 30)) w2.heap.size 30 (mcs m A1 c1) from Blk.new w2 #[.int .i64 m.kind, .int .i64 m.fr, .int .i64 m.dst, .int .i64 m.boot, .int .i64 m.view, .int .i64 m.last, .int .i64 m.mem, .int .i64 m.pos, .slice A1 m.es.length c1, .int .i64 m.com, .int .i64 m.num, .int .i64 m.clk, .bool m.yes] 30)
        have G3 := Lib.hid (HG.out.past BL3.out)
        clear o2 b2 b3 K2 K1 O2
        go_wp2_with fail
        generalize w2.alloc (.cells #[.int .i64 m.kind, .int .i64 m.fr, .int .i64 m.dst, .int .i64 m.boot, .int .i64 m.view, .int .i64 m.last, .int .i64 m.mem, .int .i64 m.pos, .slice A1 m.es.length c1, .int .i64 m.com, .int .i64 m.num, .int .i64 m.clk, .bool m.yes] 30) = w3 at *
        generalize w2.heap.size = gm at *
        have k1 := KM3.out.cell (i := 1) rfl
        have k2 := KM3.out.cell (i := 2) rfl
        have k3 := KM3.out.cell (i := 3) rfl
        have gme := G3.out.self
        have gb := (G3.out.cells hk HO.out).1
        go_quiet (fail)
        go_wp2_with fail
        refine (other_c _ g k hk _ HF.out).mono ?_
        rintro e w4 ⟨rfl, rfl⟩
        go_wp2_with fail
        go_quiet (fail)
        go_wp2_with ((with_reducible show wpList _ _ _ ((⟨none, Op.store 30 (.tmp 4) _, _, _, _, _⟩ : Oper) :: _) _ _); go_must (refine wpList_store_row rfl 30 (.tmp 4) (.tmp 40) rfl w.heap.size _ rfl rfl _ _ K3.out (by kernel_rfl) (by rfl) (by kernel_rfl) ?_))
        refine bodyPost_ret (v := .tuple #[mv zeroM none 0, .int .i64 7]) (results_rowB rfl _ _ w.heap.size _ _ _ _ rfl rfl (Blk.row (w := w3.drewN _) K3.out #[.int .i64 0, .int .i64 0, .int .i64 0, .int .i64 0, .int .i64 0, .int .i64 0, .int .i64 0, .int .i64 0, .slice none 0 0, .int .i64 0, .int .i64 0, .int .i64 0, .bool false]) Tryd.underlying30 rfl (by kernel_rfl)) rfl ?_
        unfold HearPost
        rw [HE.out.1, HE.out.2.1, HE.out.2.2]
        exact ⟨none, 0, rfl, World.ownsRow_nil _ _ _ _, Gm.far (w := w3.drewN _) G3.out (Touch.of_grown (grown_row _ _ _)) (by simpa using Nat.ne_of_lt HGL.out), ((Touch.of_below BL3.out).draws _).new (Touch.of_grown (grown_row _ _ _)) (by simp)⟩
      · have t2 : decide (m.boot < o.boot) = false := decide_eq_false hlt
        have HE := Lib.hid (show PGram.herr me L (some m) = 0 ∧ PGram.hmsg me L (some m) = m ∧ PGram.hleft me L (some m) = L.set k ⟨m.boot, o.num, o.clk, o.sent⟩ by
          unfold PGram.herr PGram.hmsg PGram.hleft
          simp only [hme'.out, ne_eq, not_true_eq_false, if_false, HA.out, hlt, if_false, HP.out, and_self])
        clear hlt
        go_enter Tryd.func11, Tryd.ntmps11
        go_wp2_with fail
        generalize w.alloc (.cells #[.int .i64 0, .int .i64 0, .int .i64 0, .int .i64 0, .int .i64 0, .int .i64 0, .int .i64 0, .int .i64 0, .slice none 0 0, .int .i64 0, .int .i64 0, .int .i64 0, .bool false] 30) = w1 at *
        have K1 := Lib.hid (show Blk w1 w.heap.size 30 (mcs zeroM none 0) from K0)
        have BL1 := Lib.hid b1
        clear K0 b1
        refine (wDecode_own (R0.out.past BL1.out) HB.out (HT.out.past BL1.out) hn hd).mono ?_
        clear hd
        rintro x w2 ⟨A1, c1, rfl, o2, b2⟩
        have BL2 := Lib.hid (BL1.out.trans (b2.mono BL1.out.size))
        have K2 := Lib.hid (K1.out.past b2)
        have O2 := Lib.hid (own_base o2 (show w.heap.size ≤ w1.heap.size from BL1.out.size))
        have b3 := (Below.refl w2.heap.size w2).alloc (Nat.le_refl _) (.cells #[.int .i64 m.kind, .int .i64 m.fr, .int .i64 m.dst, .int .i64 m.boot, .int .i64 m.view, .int .i64 m.last, .int .i64 m.mem, .int .i64 m.pos, .slice A1 m.es.length c1, .int .i64 m.com, .int .i64 m.num, .int .i64 m.clk, .bool m.yes] 30)
        have BL3 := Lib.hid (BL2.out.trans (b3.mono BL2.out.size))
        have K3 := Lib.hid (K2.out.past b3)
        have O3 := Lib.hid (own_touch O2.out (S := []) (Touch.of_below b3) (by simp))
        have KM3 := Lib.hid (show Blk (w2.alloc (.cells #[.int .i64 m.kind, .int .i64 m.fr, .int .i64 m.dst, .int .i64 m.boot, .int .i64 m.view, .int .i64 m.last, .int .i64 m.mem, .int .i64 m.pos, .slice A1 m.es.length c1, .int .i64 m.com, .int .i64 m.num, .int .i64 m.clk, .bool m.yes] 30)) w2.heap.size 30 (mcs m A1 c1) from Blk.new w2 #[.int .i64 m.kind, .int .i64 m.fr, .int .i64 m.dst, .int .i64 m.boot, .int .i64 m.view, .int .i64 m.last, .int .i64 m.mem, .int .i64 m.pos, .slice A1 m.es.length c1, .int .i64 m.com, .int .i64 m.num, .int .i64 m.clk, .bool m.yes] 30)
        have G3 := Lib.hid (HG.out.past BL3.out)
        clear o2 b2 b3 K2 K1 O2
        go_wp2_with fail
        generalize w2.alloc (.cells #[.int .i64 m.kind, .int .i64 m.fr, .int .i64 m.dst, .int .i64 m.boot, .int .i64 m.view, .int .i64 m.last, .int .i64 m.mem, .int .i64 m.pos, .slice A1 m.es.length c1, .int .i64 m.com, .int .i64 m.num, .int .i64 m.clk, .bool m.yes] 30) = w3 at *
        generalize w2.heap.size = gm at *
        have k1 := KM3.out.cell (i := 1) rfl
        have k2 := KM3.out.cell (i := 2) rfl
        have k3 := KM3.out.cell (i := 3) rfl
        have gme := G3.out.self
        have gb := (G3.out.cells hk HO.out).1
        go_quiet (fail)
        go_wp2_with fail
        refine (other_c _ g k hk _ HF.out).mono ?_
        rintro e w4 ⟨rfl, rfl⟩
        go_wp2_with fail
        go_quiet (fail)
        have f0 := G3.out.1.free (1 + k * 4)
        have HNE := Lib.hid (show gm ≠ g from KM3.out.ne G3.out.1 (by decide))
        have KM4 := Lib.hid (fun n => show Blk ((w3.drewN n).setCell ⟨g, 1 + k * 4, none⟩ (.int .i64 m.boot)) gm 30 (mcs m A1 c1) from Blk.touch (w := w3.drewN n) KM3.out (Touch.of_grown (grown_set _ _ _ _)) (by simpa using HNE.out))
        have K4 := Lib.hid (fun n => show Blk ((w3.drewN n).setCell ⟨g, 1 + k * 4, none⟩ (.int .i64 m.boot)) w.heap.size 30 (mcs zeroM none 0) from Blk.touch (w := w3.drewN n) K3.out (Touch.of_grown (grown_set _ _ _ _)) (by simpa using (Nat.ne_of_lt HGL.out).symm))
        have O4 := Lib.hid (fun n => own_touch (w := w3.drewN n) O3.out (Touch.of_grown (grown_set _ g (1 + k * 4) (.int .i64 m.boot))) (fun s hs zs hz => by
          obtain rfl := List.mem_singleton.1 hs
          exact Blk.ne G3.out.1 hz (by decide) rfl))
        have G4 := Lib.hid (fun n => Gm.set (w := w3.drewN n) G3.out hk HO.out (j := 0) (by omega) (o' := ⟨m.boot, o.num, o.clk, o.sent⟩) (v := .int .i64 m.boot) rfl)
        go_wp2_with (first | ((with_reducible show wpList _ _ _ ((⟨some 46, Op.load _ _, _, _, _, _⟩ : Oper) :: _) _ _); go_must (refine wpList_load_row rfl 30 (.tmp 6) rfl gm rfl 30 #[.int .i64 m.kind, .int .i64 m.fr, .int .i64 m.dst, .int .i64 m.boot, .int .i64 m.view, .int .i64 m.last, .int .i64 m.mem, .int .i64 m.pos, .slice A1 m.es.length c1, .int .i64 m.com, .int .i64 m.num, .int .i64 m.clk, .bool m.yes] (0, 0) _ (KM4.out _) Tryd.underlying30 rfl (by kernel_rfl) ?_)) | ((with_reducible show wpList _ _ _ ((⟨none, Op.store 30 (.tmp 4) _, _, _, _, _⟩ : Oper) :: _) _ _); go_must (refine wpList_store_row rfl 30 (.tmp 4) (.tmp 46) rfl w.heap.size _ rfl rfl _ _ (K4.out _) (by kernel_rfl) (by rfl) (by kernel_rfl) ?_)))
        refine bodyPost_ret (v := .tuple #[mv m A1 c1, .int .i64 0]) (results_rowB rfl _ _ w.heap.size _ _ _ _ rfl rfl (Blk.row (K4.out _) #[.int .i64 m.kind, .int .i64 m.fr, .int .i64 m.dst, .int .i64 m.boot, .int .i64 m.view, .int .i64 m.last, .int .i64 m.mem, .int .i64 m.pos, .slice A1 m.es.length c1, .int .i64 m.com, .int .i64 m.num, .int .i64 m.clk, .bool m.yes]) Tryd.underlying30 rfl (by kernel_rfl)) rfl ?_
        unfold HearPost
        rw [HE.out.1, HE.out.2.1, HE.out.2.2]
        refine ⟨A1, c1, rfl, own_touch (O4.out _) (Touch.of_grown (grown_row _ _ _)) (fun s hs zs hz => ?_), (G4.out _).far (Touch.of_grown (grown_row _ _ _)) (by simpa using Nat.ne_of_lt HGL.out), (((Touch.of_below BL3.out).draws _).trans (Touch.of_grown (grown_set _ _ _ _))).new (Touch.of_grown (grown_row _ _ _)) (by simp)⟩
        obtain rfl := List.mem_singleton.1 hs
        exact Blk.ne (K4.out _) hz (by decide) rfl
    · have t1 : (m.dst != me) = true := by simp [hme]
      have HE := Lib.hid (show PGram.herr me L (some m) = 1 ∧ PGram.hmsg me L (some m) = zeroM ∧ PGram.hleft me L (some m) = L by
        unfold PGram.herr PGram.hmsg PGram.hleft
        simp only [hme, ne_eq, not_false_eq_true, if_true, and_self])
      clear hme
      go_enter Tryd.func11, Tryd.ntmps11
      go_wp2_with fail
      generalize w.alloc (.cells #[.int .i64 0, .int .i64 0, .int .i64 0, .int .i64 0, .int .i64 0, .int .i64 0, .int .i64 0, .int .i64 0, .slice none 0 0, .int .i64 0, .int .i64 0, .int .i64 0, .bool false] 30) = w1 at *
      have K1 := Lib.hid (show Blk w1 w.heap.size 30 (mcs zeroM none 0) from K0)
      have BL1 := Lib.hid b1
      clear K0 b1
      refine (wDecode_own (R0.out.past BL1.out) HB.out (HT.out.past BL1.out) hn hd).mono ?_
      clear hd
      rintro x w2 ⟨A1, c1, rfl, o2, b2⟩
      have BL2 := Lib.hid (BL1.out.trans (b2.mono BL1.out.size))
      have K2 := Lib.hid (K1.out.past b2)
      have O2 := Lib.hid (own_base o2 (show w.heap.size ≤ w1.heap.size from BL1.out.size))
      have b3 := (Below.refl w2.heap.size w2).alloc (Nat.le_refl _) (.cells #[.int .i64 m.kind, .int .i64 m.fr, .int .i64 m.dst, .int .i64 m.boot, .int .i64 m.view, .int .i64 m.last, .int .i64 m.mem, .int .i64 m.pos, .slice A1 m.es.length c1, .int .i64 m.com, .int .i64 m.num, .int .i64 m.clk, .bool m.yes] 30)
      have BL3 := Lib.hid (BL2.out.trans (b3.mono BL2.out.size))
      have K3 := Lib.hid (K2.out.past b3)
      have O3 := Lib.hid (own_touch O2.out (S := []) (Touch.of_below b3) (by simp))
      have KM3 := Lib.hid (show Blk (w2.alloc (.cells #[.int .i64 m.kind, .int .i64 m.fr, .int .i64 m.dst, .int .i64 m.boot, .int .i64 m.view, .int .i64 m.last, .int .i64 m.mem, .int .i64 m.pos, .slice A1 m.es.length c1, .int .i64 m.com, .int .i64 m.num, .int .i64 m.clk, .bool m.yes] 30)) w2.heap.size 30 (mcs m A1 c1) from Blk.new w2 #[.int .i64 m.kind, .int .i64 m.fr, .int .i64 m.dst, .int .i64 m.boot, .int .i64 m.view, .int .i64 m.last, .int .i64 m.mem, .int .i64 m.pos, .slice A1 m.es.length c1, .int .i64 m.com, .int .i64 m.num, .int .i64 m.clk, .bool m.yes] 30)
      have G3 := Lib.hid (HG.out.past BL3.out)
      clear o2 b2 b3 K2 K1 O2
      go_wp2_with fail
      generalize w2.alloc (.cells #[.int .i64 m.kind, .int .i64 m.fr, .int .i64 m.dst, .int .i64 m.boot, .int .i64 m.view, .int .i64 m.last, .int .i64 m.mem, .int .i64 m.pos, .slice A1 m.es.length c1, .int .i64 m.com, .int .i64 m.num, .int .i64 m.clk, .bool m.yes] 30) = w3 at *
      generalize w2.heap.size = gm at *
      have k1 := KM3.out.cell (i := 1) rfl
      have k2 := KM3.out.cell (i := 2) rfl
      have k3 := KM3.out.cell (i := 3) rfl
      have gme := G3.out.self
      have gb := (G3.out.cells hk HO.out).1
      go_quiet (fail)
      go_wp2_with ((with_reducible show wpList _ _ _ ((⟨none, Op.store 30 (.tmp 4) _, _, _, _, _⟩ : Oper) :: _) _ _); go_must (refine wpList_store_row rfl 30 (.tmp 4) (.tmp 28) rfl w.heap.size _ rfl rfl _ _ K3.out (by kernel_rfl) (by rfl) (by kernel_rfl) ?_))
      refine bodyPost_ret (v := .tuple #[mv zeroM none 0, .int .i64 1]) (results_rowB rfl _ _ w.heap.size _ _ _ _ rfl rfl (Blk.row (w := w3.drewN _) K3.out #[.int .i64 0, .int .i64 0, .int .i64 0, .int .i64 0, .int .i64 0, .int .i64 0, .int .i64 0, .int .i64 0, .slice none 0 0, .int .i64 0, .int .i64 0, .int .i64 0, .bool false]) Tryd.underlying30 rfl (by kernel_rfl)) rfl ?_
      unfold HearPost
      rw [HE.out.1, HE.out.2.1, HE.out.2.2]
      exact ⟨none, 0, rfl, World.ownsRow_nil _ _ _ _, Gm.far (w := w3.drewN _) G3.out (Touch.of_grown (grown_row _ _ _)) (by simpa using Nat.ne_of_lt HGL.out), ((Touch.of_below BL3.out).draws _).new (Touch.of_grown (grown_row _ _ _)) (by simp)⟩
end Go.Proofs.YtfijjdahoimoeaaDoor

/- Contracts of package span that later stages ask, where mayDrift and Most are not in the seat: isTime, answer, Add. -/
namespace Go.Proofs.YtfijjdahoimoeaaDoor
open Go.RowKit

theorem isTime_c (w : World) (a : Int) :
    Calls Tryd.prog 61 #[.int .i64 a] w fun e w' => e = .returned (.bool (decide (-1099511627776 ≤ a ∧ a ≤ 1099511627776))) ∧ w = w' := by
  have e : decide (-1099511627776 ≤ a ∧ a ≤ 1099511627776) = (decide (-1099511627776 ≤ a) && decide (a ≤ 1099511627776)) := Bool.decide_and ..
  rw [e]; clear e
  by_cases h1 : -1099511627776 ≤ a <;> by_cases h2 : a ≤ 1099511627776
  all_goals
    go_enter Tryd.func61, Tryd.ntmps61
    go_wp2_with fail
    go_ret
    exact ⟨by simp [h1, h2], rfl⟩

theorem answer_c (w : World) (a : Int) :
    Calls Tryd.prog 62 #[.int .i64 a] w fun e w' => e = .returned (.tuple #[.int .i64 (PSpan.ans a).1, .bool (PSpan.ans a).2]) ∧ w = w' := by
  by_cases h : -1099511627776 ≤ a ∧ a ≤ 1099511627776
  · have e1 := PSpan.ans_in h.1 h.2
    have e2 : decide (-1099511627776 ≤ a ∧ a ≤ 1099511627776) = true := by simp [h]
    have H1 := Lib.hid e1; clear e1
    have H2 := Lib.hid e2; clear e2
    go_enter Tryd.func62, Tryd.ntmps62
    go_wp2_with fail
    refine (isTime_c w a).mono ?_
    rw [H2.out]
    rintro e w' ⟨rfl, rfl⟩
    go_wp2_with fail
    go_ret2
    exact ⟨by rw [H1.out]; rfl, rfl⟩
  · have e1 := PSpan.ans_out h
    have e2 : decide (-1099511627776 ≤ a ∧ a ≤ 1099511627776) = false := by simp [h]
    have H1 := Lib.hid e1; clear e1
    have H2 := Lib.hid e2; clear e2
    clear h
    go_enter Tryd.func62, Tryd.ntmps62
    go_wp2_with fail
    refine (isTime_c w a).mono ?_
    rw [H2.out]
    rintro e w' ⟨rfl, rfl⟩
    go_wp2_with fail
    go_ret2
    exact ⟨by rw [H1.out]; rfl, rfl⟩

theorem inT {a : Int} (h : -1099511627776 ≤ a ∧ a ≤ 1099511627776) : decide (-1099511627776 ≤ a ∧ a ≤ 1099511627776) = true := by simp [h]

theorem noT {a : Int} (h : ¬ (-1099511627776 ≤ a ∧ a ≤ 1099511627776)) : decide (-1099511627776 ≤ a ∧ a ≤ 1099511627776) = false := by simp [h]

theorem add_c (w : World) (a b : Int) :
    Calls Tryd.prog 48 #[.int .i64 a, .int .i64 b] w fun e w' => e = .returned (.tuple #[.int .i64 (PSpan.add a b).1, .bool (PSpan.add a b).2]) ∧ w = w' := by
  by_cases ha : -1099511627776 ≤ a ∧ a ≤ 1099511627776
  · by_cases hb : -1099511627776 ≤ b ∧ b ≤ 1099511627776
    · have H1 := Lib.hid (inT ha)
      have H2 := Lib.hid (inT hb)
      have H3 := Lib.hid (show PSpan.add a b = PSpan.ans (a + b) from if_pos ⟨ha, hb⟩)
      obtain ⟨a1, a2⟩ := ha
      obtain ⟨b1, b2⟩ := hb
      go_enter Tryd.func48, Tryd.ntmps48
      go_wp2_with fail
      refine (isTime_c w a).mono ?_
      rw [H1.out]
      rintro e w' ⟨rfl, rfl⟩
      go_wp2_with fail
      refine (isTime_c w b).mono ?_
      rw [H2.out]
      rintro e w' ⟨rfl, rfl⟩
      go_wp2_with fail
      refine (answer_c w (a + b)).mono ?_
      rintro e w' ⟨rfl, rfl⟩
      go_wp2_with fail
      go_ret2
      exact ⟨by rw [H3.out]; rfl, rfl⟩
    · have H1 := Lib.hid (inT ha)
      have H2 := Lib.hid (noT hb)
      have H3 := Lib.hid (show PSpan.add a b = (0, false) from if_neg (fun h => hb h.2))
      clear ha hb
      go_enter Tryd.func48, Tryd.ntmps48
      go_wp2_with fail
      refine (isTime_c w a).mono ?_
      rw [H1.out]
      rintro e w' ⟨rfl, rfl⟩
      go_wp2_with fail
      refine (isTime_c w b).mono ?_
      rw [H2.out]
      rintro e w' ⟨rfl, rfl⟩
      go_wp2_with fail
      go_ret2
      exact ⟨by rw [H3.out]; rfl, rfl⟩
  · have H1 := Lib.hid (noT ha)
    have H3 := Lib.hid (show PSpan.add a b = (0, false) from if_neg (fun h => ha h.1))
    clear ha
    go_enter Tryd.func48, Tryd.ntmps48
    go_wp2_with fail
    refine (isTime_c w a).mono ?_
    rw [H1.out]
    rintro e w' ⟨rfl, rfl⟩
    go_wp2_with fail
    go_ret2
    exact ⟨by rw [H3.out]; rfl, rfl⟩
end Go.Proofs.YtfijjdahoimoeaaDoor

/- Contracts of package span that later stages ask: mayDrift, Most (isTime, answer, Add: XSpanE). -/
namespace Go.Proofs.YtfijjdahoimoeaaDoor
open Go.RowKit

theorem okT {a d : Int} (h : PSpan.Ok a d) : decide (PSpan.Ok a d) = true := by simp [h]

theorem okF {a d : Int} (h : ¬ PSpan.Ok a d) : decide (PSpan.Ok a d) = false := by simp [h]

theorem mayDrift_c (w : World) (a d : Int) :
    Calls Tryd.prog 69 #[.int .i64 a, .int .i64 d] w fun e w' => e = .returned (.bool (decide (PSpan.Ok a d))) ∧ w = w' := by
  by_cases h1 : 0 ≤ a
  · by_cases h2 : a ≤ 1099511627776
    · have HT := Lib.hid (inT (show -1099511627776 ≤ a ∧ a ≤ 1099511627776 by omega))
      by_cases h3 : 0 ≤ d
      · by_cases h4 : d ≤ 500000
        · have H := Lib.hid (okT (show PSpan.Ok a d from ⟨h1, h2, h3, h4⟩))
          go_enter Tryd.func69, Tryd.ntmps69
          go_wp2_with fail
          refine (isTime_c w a).mono ?_
          rw [HT.out]
          rintro e w' ⟨rfl, rfl⟩
          go_wp2_with fail
          go_ret
          exact ⟨by rw [H.out]; rfl, rfl⟩
        · have H := Lib.hid (okF (fun h : PSpan.Ok a d => h4 h.2.2.2))
          go_enter Tryd.func69, Tryd.ntmps69
          go_wp2_with fail
          refine (isTime_c w a).mono ?_
          rw [HT.out]
          rintro e w' ⟨rfl, rfl⟩
          go_wp2_with fail
          go_ret
          exact ⟨by rw [H.out]; simp [h4], rfl⟩
      · have H := Lib.hid (okF (fun h : PSpan.Ok a d => h3 h.2.2.1))
        go_enter Tryd.func69, Tryd.ntmps69
        go_wp2_with fail
        refine (isTime_c w a).mono ?_
        rw [HT.out]
        rintro e w' ⟨rfl, rfl⟩
        go_wp2_with fail
        go_ret
        exact ⟨by rw [H.out]; rfl, rfl⟩
    · have HT := Lib.hid (noT (show ¬ (-1099511627776 ≤ a ∧ a ≤ 1099511627776) by omega))
      have H := Lib.hid (okF (fun h : PSpan.Ok a d => h2 h.2.1))
      go_enter Tryd.func69, Tryd.ntmps69
      go_wp2_with fail
      refine (isTime_c w a).mono ?_
      rw [HT.out]
      rintro e w' ⟨rfl, rfl⟩
      go_wp2_with fail
      go_ret
      exact ⟨by rw [H.out]; rfl, rfl⟩
  · have H := Lib.hid (okF (fun h : PSpan.Ok a d => h1 h.1))
    go_enter Tryd.func69, Tryd.ntmps69
    go_wp2_with fail
    go_ret
    exact ⟨by rw [H.out]; rfl, rfl⟩

theorem mul_bound {a p A P : Int} (h1 : 0 ≤ a) (h2 : a ≤ A) (h3 : 0 ≤ p) (h4 : p ≤ P) : 0 ≤ a * p ∧ a * p ≤ A * P :=
  ⟨Int.mul_nonneg h1 h3, Int.mul_le_mul h2 h4 h3 (by omega)⟩

theorem Most_c (w : World) (a d : Int) :
    Calls Tryd.prog 60 #[.int .i64 a, .int .i64 d] w fun e w' => e = .returned (.tuple #[.int .i64 (PSpan.most a d).1, .bool (PSpan.most a d).2]) ∧ w = w' := by
  by_cases h : PSpan.Ok a d
  · have H := Lib.hid (okT h)
    have H3 := Lib.hid (show PSpan.most a d = PSpan.ans ((a * (1000000 + d) + (1000000 - d) - 1) / (1000000 - d)) from if_pos h)
    obtain ⟨h1, h2, h3, h4⟩ := h
    obtain ⟨m1, m2⟩ := mul_bound h1 h2 (show 0 ≤ 1000000 + d by omega) (show 1000000 + d ≤ 1500000 by omega)
    go_enter Tryd.func60, Tryd.ntmps60
    go_wp2_with fail
    refine (mayDrift_c w a d).mono ?_
    rw [H.out]
    rintro e w' ⟨rfl, rfl⟩
    go_wp2_with fail
    refine (answer_c w ((a * (1000000 + d) + (1000000 - d) - 1) / (1000000 - d))).mono ?_
    rintro e w' ⟨rfl, rfl⟩
    go_wp2_with fail
    go_ret2
    exact ⟨by rw [H3.out]; rfl, rfl⟩
  · have H := Lib.hid (okF h)
    have H3 := Lib.hid (show PSpan.most a d = (0, false) from if_neg h)
    clear h
    go_enter Tryd.func60, Tryd.ntmps60
    go_wp2_with fail
    refine (mayDrift_c w a d).mono ?_
    rw [H.out]
    rintro e w' ⟨rfl, rfl⟩
    go_wp2_with fail
    go_ret2
    exact ⟨by rw [H3.out]; rfl, rfl⟩

end Go.Proofs.YtfijjdahoimoeaaDoor

/- The contract of span.Sub. -/
namespace Go.Proofs.YtfijjdahoimoeaaDoor
open Go.RowKit

theorem sub_c (w : World) (a b : Int) :
    Calls Tryd.prog 59 #[.int .i64 a, .int .i64 b] w fun e w' => e = .returned (.tuple #[.int .i64 (PSpan.sub a b).1, .bool (PSpan.sub a b).2]) ∧ w = w' := by
  by_cases ha : -1099511627776 ≤ a ∧ a ≤ 1099511627776
  · by_cases hb : -1099511627776 ≤ b ∧ b ≤ 1099511627776
    · have H1 := Lib.hid (inT ha)
      have H2 := Lib.hid (inT hb)
      have H3 := Lib.hid (show PSpan.sub a b = PSpan.ans (a - b) from if_pos ⟨ha, hb⟩)
      obtain ⟨a1, a2⟩ := ha
      obtain ⟨b1, b2⟩ := hb
      go_enter Tryd.func59, Tryd.ntmps59
      go_wp2_with fail
      refine (isTime_c w a).mono ?_
      rw [H1.out]
      rintro e w' ⟨rfl, rfl⟩
      go_wp2_with fail
      refine (isTime_c w b).mono ?_
      rw [H2.out]
      rintro e w' ⟨rfl, rfl⟩
      go_wp2_with fail
      refine (answer_c w (a - b)).mono ?_
      rintro e w' ⟨rfl, rfl⟩
      go_wp2_with fail
      go_ret2
      exact ⟨by rw [H3.out]; rfl, rfl⟩
    · have H1 := Lib.hid (inT ha)
      have H2 := Lib.hid (noT hb)
      have H3 := Lib.hid (show PSpan.sub a b = (0, false) from if_neg (fun h => hb h.2))
      clear ha hb
      go_enter Tryd.func59, Tryd.ntmps59
      go_wp2_with fail
      refine (isTime_c w a).mono ?_
      rw [H1.out]
      rintro e w' ⟨rfl, rfl⟩
      go_wp2_with fail
      refine (isTime_c w b).mono ?_
      rw [H2.out]
      rintro e w' ⟨rfl, rfl⟩
      go_wp2_with fail
      go_ret2
      exact ⟨by rw [H3.out]; rfl, rfl⟩
  · have H1 := Lib.hid (noT ha)
    have H3 := Lib.hid (show PSpan.sub a b = (0, false) from if_neg (fun h => ha h.1))
    clear ha
    go_enter Tryd.func59, Tryd.ntmps59
    go_wp2_with fail
    refine (isTime_c w a).mono ?_
    rw [H1.out]
    rintro e w' ⟨rfl, rfl⟩
    go_wp2_with fail
    go_ret2
    exact ⟨by rw [H3.out]; rfl, rfl⟩

end Go.Proofs.YtfijjdahoimoeaaDoor

/- Contracts of package delay, the small ones: went, isRate, mostReal, leastReal. -/
namespace Go.Proofs.YtfijjdahoimoeaaDoor
open Go.RowKit

theorem went_c (w : World) (x y : Int) :
    Calls Tryd.prog 44 #[.int .i64 x, .int .i64 y] w fun e w' => e = .returned (.tuple #[.int .i64 (PDelay.went x y).1, .bool (PDelay.went x y).2]) ∧ w = w' := by
  have H1 := Lib.hid (show PDelay.went x y = ((PSpan.sub y x).1, (PSpan.sub y x).2 && decide (0 ≤ (PSpan.sub y x).1)) from rfl)
  have K := Lib.hid (sub_c w y x)
  generalize PSpan.sub y x = r at *
  generalize PDelay.went x y = o at *
  obtain ⟨a, ok⟩ := r
  cases ok
  · go_enter Tryd.func44, Tryd.ntmps44
    go_wp2_with fail
    refine K.out.mono ?_
    rintro e w' ⟨rfl, rfl⟩
    go_wp2_with fail
    go_ret2
    exact ⟨by rw [H1.out]; rfl, rfl⟩
  · by_cases h : 0 ≤ a
    · have H2 := Lib.hid (decide_eq_true h)
      go_enter Tryd.func44, Tryd.ntmps44
      go_wp2_with fail
      refine K.out.mono ?_
      rintro e w' ⟨rfl, rfl⟩
      go_wp2_with fail
      go_ret2
      exact ⟨by rw [H1.out]; simp [H2.out], rfl⟩
    · have H2 := Lib.hid (decide_eq_false h)
      go_enter Tryd.func44, Tryd.ntmps44
      go_wp2_with fail
      refine K.out.mono ?_
      rintro e w' ⟨rfl, rfl⟩
      go_wp2_with fail
      go_ret2
      exact ⟨by rw [H1.out]; simp [H2.out], rfl⟩

theorem lRate_c (w : World) (d : Int) :
    Calls Tryd.prog 45 #[.int .i64 d] w fun e w' => e = .returned (.bool (decide (PDelay.Rate d))) ∧ w = w' := by
  have H1 := Lib.hid (show (PSpan.most 0 d).2 = decide (PDelay.Rate d) by
    unfold PSpan.most PDelay.Rate
    by_cases h : 0 ≤ d ∧ d ≤ 500000
    · have e : PSpan.up 0 (1000000 + d) (1000000 - d) = 0 := by
        unfold PSpan.up
        rw [Int.zero_mul]
        exact Int.ediv_eq_zero_of_lt (by omega) (by omega)
      rw [if_pos (by unfold PSpan.Ok; omega), e]; simp [h, PSpan.ans]
    · rw [if_neg (fun h' : PSpan.Ok 0 d => h h'.2.2)]; simp [h])
  generalize decide (PDelay.Rate d) = t at *
  go_enter Tryd.func45, Tryd.ntmps45
  go_wp2_with fail
  refine (Most_c w 0 d).mono ?_
  rw [H1.out]
  rintro e w' ⟨rfl, rfl⟩
  go_wp2_with fail
  go_ret
  exact ⟨rfl, rfl⟩

theorem mostReal_c (w : World) (a p : Int) (h1 : 0 ≤ a) (h2 : a ≤ 1099511627776) (hp : PDelay.Rate p) :
    Calls Tryd.prog 46 #[.int .i64 a, .int .i64 p] w fun e w' => e = .returned (.int .i64 (PSpan.up a 1000000 (1000000 - p))) ∧ w = w' := by
  obtain ⟨p1, p2⟩ := hp
  show Calls _ _ _ _ fun e w' => e = .returned (.int .i64 ((a * 1000000 + (1000000 - p) - 1) / (1000000 - p))) ∧ w = w'
  go_enter Tryd.func46, Tryd.ntmps46
  go_wp2_with fail
  go_ret
  exact ⟨rfl, rfl⟩

theorem leastReal_c (w : World) (a p : Int) (h1 : 0 ≤ a) (h2 : a ≤ 1099511627776) (hp : PDelay.Rate p) :
    Calls Tryd.prog 47 #[.int .i64 a, .int .i64 p] w fun e w' => e = .returned (.int .i64 (PSpan.dn a 1000000 (1000000 + p))) ∧ w = w' := by
  obtain ⟨p1, p2⟩ := hp
  show Calls _ _ _ _ fun e w' => e = .returned (.int .i64 (a * 1000000 / (1000000 + p))) ∧ w = w'
  go_enter Tryd.func47, Tryd.ntmps47
  go_wp2_with fail
  go_ret
  exact ⟨rfl, rfl⟩
end Go.Proofs.YtfijjdahoimoeaaDoor

/- Contract of delay.Bound. -/
namespace Go.Proofs.YtfijjdahoimoeaaDoor
open Go.RowKit


/-- A trip by value. -/
def tv (s h b c : Int) : Value := .agg #[.int .i64 s, .int .i64 h, .int .i64 b, .int .i64 c]
theorem Bound_c (w : World) (s h b c p : Int) :
    Calls Tryd.prog 30 #[tv s h b c, .int .i64 p] w fun e w' => e = .returned (.tuple #[.int .i64 (PDelay.bound s h b c p).1, .bool (PDelay.bound s h b c p).2]) ∧ Below w.heap.size w w' := by
  have KW := Lib.hid (fun w' => went_c w' s c)
  have KH := Lib.hid (fun w' => went_c w' h b)
  have KR := Lib.hid (fun w' => lRate_c w' p)
  by_cases hw : (PDelay.went s c).2 = true
  · by_cases hh : (PDelay.went h b).2 = true
    · by_cases hr : PDelay.Rate p
      · have HB := Lib.hid (show PDelay.bound s h b c p = PSpan.add (PDelay.raw (PDelay.went s c).1 (PDelay.went h b).1 p) 0 from if_pos ⟨hw, hh, hr⟩)
        have y1 := PDelay.went_yes hw
        have y2 := PDelay.went_yes hh
        have HR := Lib.hid (decide_eq_true hr)
        obtain ⟨u1, u2⟩ := PDelay.up_big y1.2.1 y1.2.2.1 hr
        obtain ⟨d1, d2⟩ := PDelay.dn_big y2.2.1 hr
        have KM := Lib.hid (fun w' => mostReal_c w' (c - s) p y1.2.1 y1.2.2.1 hr)
        have KL := Lib.hid (fun w' => leastReal_c w' (b - h) p y2.2.1 y2.2.2.1 hr)
        have l1 := y1.2.1
        have l2 := y1.2.2.1
        have l3 := y2.2.1
        have l4 := y2.2.2.1
        rw [y1.1, y2.1] at HB
        rw [y1.1] at KW
        rw [y2.1] at KH
        have KA := Lib.hid (fun w' => add_c w' (max 0 (PSpan.up (c - s) 1000000 (1000000 - p) - PSpan.dn (b - h) 1000000 (1000000 + p))) 0)
        have HB' := Lib.hid (show PDelay.bound s h b c p = PSpan.add (max 0 (PSpan.up (c - s) 1000000 (1000000 - p) - PSpan.dn (b - h) 1000000 (1000000 + p))) 0 from HB.out)
        clear HB hw hh hr y1 y2
        generalize PDelay.bound s h b c p = r at *
        generalize PSpan.up (c - s) 1000000 (1000000 - p) = u at *
        generalize PSpan.dn (b - h) 1000000 (1000000 + p) = d at *
        show Calls _ _ #[.agg #[.int .i64 s, .int .i64 h, .int .i64 b, .int .i64 c], _] _ _
        go_enter Tryd.func30, Tryd.ntmps30
        go_wp2_with fail
        refine (KW.out _).mono ?_
        rintro e w1 ⟨rfl, rfl⟩
        go_wp2_with fail
        refine (KH.out _).mono ?_
        rintro e w1 ⟨rfl, rfl⟩
        go_wp2_with fail
        refine (KR.out _).mono ?_
        rw [HR.out]
        rintro e w1 ⟨rfl, rfl⟩
        go_wp2_with fail
        refine (KM.out _).mono ?_
        rintro e w1 ⟨rfl, rfl⟩
        go_wp2_with fail
        refine (KL.out _).mono ?_
        rintro e w1 ⟨rfl, rfl⟩
        go_wp2_with fail
        refine (KA.out _).mono ?_
        rintro e w1 ⟨rfl, rfl⟩
        go_wp2_with fail
        go_ret2
        exact ⟨by rw [HB'.out]; rfl, (Below.refl _ _).alloc (Nat.le_refl _) _⟩
      · have HB := Lib.hid (show PDelay.bound s h b c p = (0, false) from if_neg (fun x => hr x.2.2))
        have HR := Lib.hid (decide_eq_false hr)
        have HW := Lib.hid hw
        have HH := Lib.hid hh
        clear hw hh hr
        show Calls _ _ #[.agg #[.int .i64 s, .int .i64 h, .int .i64 b, .int .i64 c], _] _ _
        go_enter Tryd.func30, Tryd.ntmps30
        go_wp2_with fail
        refine (KW.out _).mono ?_
        rw [HW.out]
        rintro e w1 ⟨rfl, rfl⟩
        go_wp2_with fail
        refine (KH.out _).mono ?_
        rw [HH.out]
        rintro e w1 ⟨rfl, rfl⟩
        go_wp2_with fail
        refine (KR.out _).mono ?_
        rw [HR.out]
        rintro e w1 ⟨rfl, rfl⟩
        go_wp2_with fail
        go_ret2
        exact ⟨by rw [HB.out]; rfl, (Below.refl _ _).alloc (Nat.le_refl _) _⟩
    · have HB := Lib.hid (show PDelay.bound s h b c p = (0, false) from if_neg (fun x => hh x.2.1))
      have HW := Lib.hid hw
      have HH := Lib.hid (Bool.eq_false_iff.2 hh)
      clear hw hh
      show Calls _ _ #[.agg #[.int .i64 s, .int .i64 h, .int .i64 b, .int .i64 c], _] _ _
      go_enter Tryd.func30, Tryd.ntmps30
      go_wp2_with fail
      refine (KW.out _).mono ?_
      rw [HW.out]
      rintro e w1 ⟨rfl, rfl⟩
      go_wp2_with fail
      refine (KH.out _).mono ?_
      rw [HH.out]
      rintro e w1 ⟨rfl, rfl⟩
      go_wp2_with fail
      go_ret2
      exact ⟨by rw [HB.out]; rfl, (Below.refl _ _).alloc (Nat.le_refl _) _⟩
  · have HB := Lib.hid (show PDelay.bound s h b c p = (0, false) from if_neg (fun x => hw x.1))
    have HW := Lib.hid (Bool.eq_false_iff.2 hw)
    clear hw
    show Calls _ _ #[.agg #[.int .i64 s, .int .i64 h, .int .i64 b, .int .i64 c], _] _ _
    go_enter Tryd.func30, Tryd.ntmps30
    go_wp2_with fail
    refine (KW.out _).mono ?_
    rw [HW.out]
    rintro e w1 ⟨rfl, rfl⟩
    go_wp2_with fail
    refine (KH.out _).mono ?_
    rintro e w1 ⟨rfl, rfl⟩
    go_wp2_with fail
    go_ret2
    exact ⟨by rw [HB.out]; rfl, (Below.refl _ _).alloc (Nat.le_refl _) _⟩
end Go.Proofs.YtfijjdahoimoeaaDoor

/- Contract of Took. -/
namespace Go.Proofs.YtfijjdahoimoeaaDoor
open Go.RowKit

theorem took_nil (w : World) (m : Msg) (A : Option Addr) (c : Nat) (clk p : Int) :
    Calls Tryd.prog 17 #[.pointer none, mv m A c, .int .i64 clk, .int .i64 p] w fun x w' => x = .returned (.tuple #[.int .i64 0, .bool false]) ∧ Below w.heap.size w w' := by
  show Calls _ _ #[_, .agg #[.int .i64 m.kind, .int .i64 m.fr, .int .i64 m.dst, .int .i64 m.boot, .int .i64 m.view, .int .i64 m.last, .int .i64 m.mem, .int .i64 m.pos, .slice A m.es.length c, .int .i64 m.com, .int .i64 m.num, .int .i64 m.clk, .bool m.yes], _, _] _ _
  go_enter Tryd.func17, Tryd.ntmps17
  go_wp2_with fail
  go_ret2
  exact ⟨rfl, (Below.refl _ _).alloc (Nat.le_refl _) _⟩

set_option maxHeartbeats 4000000 in
theorem took_c (w : World) (g : Nat) (me : Int) (L : List Oth) (hg : Gm w g me L) (m : Msg) (A : Option Addr) (c : Nat) (clk p : Int) :
    Calls Tryd.prog 17 #[.pointer (some ⟨g, 0, none⟩), mv m A c, .int .i64 clk, .int .i64 p] w fun x w' => x = .returned (.tuple #[.int .i64 (PGram.took L m clk p).1, .bool (PGram.took L m clk p).2]) ∧ Below w.heap.size w w' := by
  have b1 := (Below.refl w.heap.size w).alloc (Nat.le_refl _) (.cells #[.int .i64 m.kind, .int .i64 m.fr, .int .i64 m.dst, .int .i64 m.boot, .int .i64 m.view, .int .i64 m.last, .int .i64 m.mem, .int .i64 m.pos, .slice A m.es.length c, .int .i64 m.com, .int .i64 m.num, .int .i64 m.clk, .bool m.yes] 30)
  have K0 := Blk.new w #[.int .i64 m.kind, .int .i64 m.fr, .int .i64 m.dst, .int .i64 m.boot, .int .i64 m.view, .int .i64 m.last, .int .i64 m.mem, .int .i64 m.pos, .slice A m.es.length c, .int .i64 m.com, .int .i64 m.num, .int .i64 m.clk, .bool m.yes] 30
  have HG := Lib.hid hg
  have hr : PGram.took L m clk p = if PGram.isId m.fr = true ∧ m.kind = 13 ∧ (PGram.at_ L m.fr).sent = true ∧ (PGram.at_ L m.fr).num = m.num then PDelay.bound (PGram.at_ L m.fr).clk m.clk m.clk clk p else (0, false) := rfl
  have HR := Lib.hid hr
  clear hg hr
  generalize PGram.took L m clk p = r at *
  show Calls _ _ #[_, .agg #[.int .i64 m.kind, .int .i64 m.fr, .int .i64 m.dst, .int .i64 m.boot, .int .i64 m.view, .int .i64 m.last, .int .i64 m.mem, .int .i64 m.pos, .slice A m.es.length c, .int .i64 m.com, .int .i64 m.num, .int .i64 m.clk, .bool m.yes], _, _] _ _
  cases hi : PGram.isId m.fr
  · have HN := Lib.hid (HR.out.trans (if_neg (fun x => by rw [hi] at x; cases x.1)))
    have HI := Lib.hid hi
    clear HR hi
    go_enter Tryd.func17, Tryd.ntmps17
    go_wp2_with fail
    generalize w.alloc (.cells #[.int .i64 m.kind, .int .i64 m.fr, .int .i64 m.dst, .int .i64 m.boot, .int .i64 m.view, .int .i64 m.last, .int .i64 m.mem, .int .i64 m.pos, .slice A m.es.length c, .int .i64 m.com, .int .i64 m.num, .int .i64 m.clk, .bool m.yes] 30) = w1 at *
    refine (isID_c w1 m.fr).mono ?_
    rw [HI.out]
    rintro e w2 ⟨rfl, rfl⟩
    go_wp2_with fail
    go_ret2
    exact ⟨by rw [HN.out]; rfl, b1⟩
  obtain ⟨k, hk, hfr⟩ := PGram.isId_yes hi
  have HI := Lib.hid hi
  have HF := Lib.hid hfr
  obtain ⟨o, ho⟩ : ∃ o, L.getD k PGram.zero = o := ⟨_, rfl⟩
  have HA := Lib.hid (show PGram.at_ L m.fr = o by rw [hfr, PGram.at_k]; exact ho)
  have HO := Lib.hid ho
  clear hi hfr ho
  rw [HA.out] at HR
  clear HA
  obtain ⟨ob, on, oc, os⟩ := o
  simp only at HR
  by_cases h13 : m.kind = 13
  · have t1 : (m.kind != 13) = false := by simp [h13]
    have H13 := Lib.hid h13
    clear h13
    cases os
    · have HN := Lib.hid (HR.out.trans (if_neg (fun x => by cases x.2.2.1)))
      clear HR
      go_enter Tryd.func17, Tryd.ntmps17
      go_wp2_with fail
      generalize w.alloc (.cells #[.int .i64 m.kind, .int .i64 m.fr, .int .i64 m.dst, .int .i64 m.boot, .int .i64 m.view, .int .i64 m.last, .int .i64 m.mem, .int .i64 m.pos, .slice A m.es.length c, .int .i64 m.com, .int .i64 m.num, .int .i64 m.clk, .bool m.yes] 30) = w1 at *
      have K1 := Lib.hid (show Blk w1 w.heap.size 30 (mcs m A c) from K0)
      have k0 := K1.out.cell (i := 0) rfl
      have k1 := K1.out.cell (i := 1) rfl
      have G1 := Lib.hid (HG.out.past b1)
      obtain ⟨-, p1, p2, p3⟩ := G1.out.cells hk HO.out
      dsimp only at p1 p2 p3
      clear K0
      refine (isID_c w1 m.fr).mono ?_
      rw [HI.out]
      rintro e w2 ⟨rfl, rfl⟩
      go_wp2_with fail
      refine (other_c w1 g k hk _ HF.out).mono ?_
      rintro e w2 ⟨rfl, rfl⟩
      go_wp2_with fail
      go_ret2
      exact ⟨by rw [HN.out]; rfl, b1.alloc b1.size _⟩
    · have KP := Lib.hid (fun w1 (h : Blk w1 w.heap.size 30 (mcs m A c)) => h.alloc (.cells #[.int .i64 on, .int .i64 oc, .bool true] 55))
      by_cases hn : on = m.num
      · have HN := Lib.hid (HR.out.trans (if_pos ⟨HI.out, H13.out, rfl, hn⟩))
        have t2 : (on != m.num) = false := by simp [hn]
        clear HR hn
        go_enter Tryd.func17, Tryd.ntmps17
        go_wp2_with fail
        generalize w.alloc (.cells #[.int .i64 m.kind, .int .i64 m.fr, .int .i64 m.dst, .int .i64 m.boot, .int .i64 m.view, .int .i64 m.last, .int .i64 m.mem, .int .i64 m.pos, .slice A m.es.length c, .int .i64 m.com, .int .i64 m.num, .int .i64 m.clk, .bool m.yes] 30) = w1 at *
        have K1 := Lib.hid (show Blk w1 w.heap.size 30 (mcs m A c) from K0)
        have k0 := K1.out.cell (i := 0) rfl
        have k1 := K1.out.cell (i := 1) rfl
        have G1 := Lib.hid (HG.out.past b1)
        obtain ⟨-, p1, p2, p3⟩ := G1.out.cells hk HO.out
        dsimp only at p1 p2 p3
        clear K0
        refine (isID_c w1 m.fr).mono ?_
        rw [HI.out]
        rintro e w2 ⟨rfl, rfl⟩
        go_wp2_with fail
        refine (other_c w1 g k hk _ HF.out).mono ?_
        rintro e w2 ⟨rfl, rfl⟩
        have k10 := (KP.out _ K1.out).cell (i := 10) rfl
        have k11 := (KP.out _ K1.out).cell (i := 11) rfl
        go_wp2_with fail
        have b2 := b1.alloc b1.size (.cells #[.int .i64 on, .int .i64 oc, .bool true] 55)
        generalize w1.alloc (.cells #[.int .i64 on, .int .i64 oc, .bool true] 55) = w2 at *
        refine (show Calls _ _ #[.agg #[.int .i64 oc, .int .i64 m.clk, .int .i64 m.clk, .int .i64 clk], .int .i64 p] _ _ from Bound_c w2 oc m.clk m.clk clk p).mono ?_
        rintro e w3 ⟨rfl, b3⟩
        go_wp2_with fail
        go_ret2
        exact ⟨by rw [HN.out]; rfl, b2.trans (b3.mono b2.size)⟩
      · have HN := Lib.hid (HR.out.trans (if_neg (fun x => hn x.2.2.2)))
        have t2 : (on != m.num) = true := by simp [hn]
        clear HR hn
        go_enter Tryd.func17, Tryd.ntmps17
        go_wp2_with fail
        generalize w.alloc (.cells #[.int .i64 m.kind, .int .i64 m.fr, .int .i64 m.dst, .int .i64 m.boot, .int .i64 m.view, .int .i64 m.last, .int .i64 m.mem, .int .i64 m.pos, .slice A m.es.length c, .int .i64 m.com, .int .i64 m.num, .int .i64 m.clk, .bool m.yes] 30) = w1 at *
        have K1 := Lib.hid (show Blk w1 w.heap.size 30 (mcs m A c) from K0)
        have k0 := K1.out.cell (i := 0) rfl
        have k1 := K1.out.cell (i := 1) rfl
        have G1 := Lib.hid (HG.out.past b1)
        obtain ⟨-, p1, p2, p3⟩ := G1.out.cells hk HO.out
        dsimp only at p1 p2 p3
        clear K0
        refine (isID_c w1 m.fr).mono ?_
        rw [HI.out]
        rintro e w2 ⟨rfl, rfl⟩
        go_wp2_with fail
        refine (other_c w1 g k hk _ HF.out).mono ?_
        rintro e w2 ⟨rfl, rfl⟩
        have k10 := (KP.out _ K1.out).cell (i := 10) rfl
        go_wp2_with fail
        go_ret2
        exact ⟨by rw [HN.out]; rfl, b1.alloc b1.size _⟩
  · have HN := Lib.hid (HR.out.trans (if_neg (fun x => h13 x.2.1)))
    have t1 : (m.kind != 13) = true := by simp [h13]
    clear HR h13
    go_enter Tryd.func17, Tryd.ntmps17
    go_wp2_with fail
    generalize w.alloc (.cells #[.int .i64 m.kind, .int .i64 m.fr, .int .i64 m.dst, .int .i64 m.boot, .int .i64 m.view, .int .i64 m.last, .int .i64 m.mem, .int .i64 m.pos, .slice A m.es.length c, .int .i64 m.com, .int .i64 m.num, .int .i64 m.clk, .bool m.yes] 30) = w1 at *
    have K1 := Lib.hid (show Blk w1 w.heap.size 30 (mcs m A c) from K0)
    have k0 := K1.out.cell (i := 0) rfl
    refine (isID_c w1 m.fr).mono ?_
    rw [HI.out]
    rintro e w2 ⟨rfl, rfl⟩
    go_wp2_with fail
    go_ret2
    exact ⟨by rw [HN.out]; rfl, b1⟩
end Go.Proofs.YtfijjdahoimoeaaDoor

