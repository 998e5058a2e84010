/- Contract of the document's Best of votes. -/
import Derived.Test.YtheeigbljjcbpaaVoteR
import Derived.Deep.CutRange
import Derived.Lib.MinMax
namespace Go.Proofs.Ytheeigbljjcbpaa
open Go.RowKit PVote

/-- What the document tells. -/
def bestD (n : Int) (L : List Vt) : Vt := if PTeam.most (tsum L) n = true then cutc (run L) else zero
def RBestPost (w : World) (n : Int) (L : List Vt) (e : Ending) (w' : World) : Prop :=
  ∃ A c, e = .returned (.tuple #[vv (bestD n L) A c, .bool (PTeam.most (tsum L) n)]) ∧ Rd w' w'.heap.size A c 7 (bestD n L).es.length (els (bestD n L).es) ∧ Below w.heap.size w w'

set_option maxHeartbeats 8000000 in
set_option maxRecDepth 100000 in
theorem rvbest_no (w : World) (g : Nat) (F : List Nat) (view n : Int) (L : List Vt) (h : Rs w g F view n L) (h1 : ∀ x ∈ L, 1 ≤ x.fr ∧ x.fr ≤ 7) (hl : L.length ≤ 7) (t : Nat) (ht : tsum L = t) (hm : PTeam.most (t : Int) n = false) :
    Calls Try.prog 15 #[.pointer (some ⟨g, 0, none⟩)] w (RBestPost w n L) := by
  have H1 := Lib.hid h1
  have HL := Lib.hid hl
  have TS := Lib.hid ht
  have HM := Lib.hid hm
  have h' := h.alloc (.cells #[.int .i64 0, .int .i64 0, .slice none 0 0, .int .i64 0] 36)
  have LG := Lib.hid (show g < (w.alloc (.cells #[.int .i64 0, .int .i64 0, .slice none 0 0, .int .i64 0] 36)).drew.heap.size from h'.lt)
  have RS := Lib.hid (show Rs (w.alloc (.cells #[.int .i64 0, .int .i64 0, .slice none 0 0, .int .i64 0] 36)).drew g F view n L from h'.past (Below.refl _ _).drew)
  have K2 := Lib.hid (show Blk (w.alloc (.cells #[.int .i64 0, .int .i64 0, .slice none 0 0, .int .i64 0] 36)).drew w.heap.size 36 [.int .i64 0, .int .i64 0, .slice none 0 0, .int .i64 0] from Blk.new w #[.int .i64 0, .int .i64 0, .slice none 0 0, .int .i64 0] 36)
  have B1 := Lib.hid (show Below w.heap.size w (w.alloc (.cells #[.int .i64 0, .int .i64 0, .slice none 0 0, .int .i64 0] 36)).drew from ((Below.refl _ _).alloc (Nat.le_refl _) _).drew)
  obtain ⟨A0, c0, -, q1, -, -⟩ := RS.out.open
  have Q1 := Lib.hid q1
  clear h' q1 h1 hl ht hm
  clear h
  go_enter Try.func15, Try.ntmps15
  go_wp2_with fail
  generalize w.alloc (.cells #[.int .i64 0, .int .i64 0, .slice none 0 0, .int .i64 0] 36) = w1 at *
-- REGION (*curfew/curfewref19.Votes).Best 1 vrbest1f 2
  refine Hb.begin ?_
  refine Hb.take (v := .pointer (some ⟨g, 0, none⟩)) 0 8 rfl ?_ (fun _ _ => rfl)
  refine Hb.take (v := .pointer (some ⟨g, 0, none⟩)) 2 10 rfl ?_ (fun _ _ => rfl)
  refine Hb.take (v := .pointer (some ⟨g, 0, none⟩)) 3 11 rfl ?_ (fun w' hw' => by go_simp; first | done | rfl | omega | exact wrap_in (by omega) (by omega) | exact Int.tmod_eq_emod_of_nonneg (by omega) | exact Int.tdiv_eq_ediv_of_nonneg (by omega) | (simp; omega))
  refine Hb.take (v := .pointer (some ⟨g, 1, none⟩)) 4 12 rfl ?_ (fun w' hw' => by go_simp; first | done | rfl | omega | exact wrap_in (by omega) (by omega) | exact Int.tmod_eq_emod_of_nonneg (by omega) | exact Int.tdiv_eq_ediv_of_nonneg (by omega) | (simp; omega))
  refine Hb.take (v := .int .i64 n) 5 13 rfl ?_ (fun w' hw' => by have cc := (hw'.cell (p := ⟨g, 1, none⟩) LG.out).trans Q1.out; go_simp)
  refine Hb.call (f := 17) (args := #[.pointer (some ⟨g, 0, none⟩)]) 1 9 rfl ?_ (run_callf Try.func17 (by kernel_rfl) (by kernel_rfl) (by simp only [List.map_toArray, List.map_cons, List.map_nil]; rfl))
  refine (rvTeam_c _ g F view n L RS.out H1.out HL.out).mono ?_
  rw [TS.out]
  rintro e w' ⟨rfl, rfl⟩
  refine Hb.back (Below.refl _ _) (Nat.le_refl _) ?_
  refine Hb.call (f := 19) (args := #[.int .i64 (t : Int), .int .i64 n]) 6 14 rfl ?_ (run_callf Try.func19 (by kernel_rfl) (by kernel_rfl) (by simp only [List.map_toArray, List.map_cons, List.map_nil]; rfl))
  refine (rtMost_c _ (t : Int) n).mono ?_
  rw [HM.out]
  rintro e w2 ⟨rfl, b2⟩
  have K2 := Lib.hid (K2.out.past b2)
  have B2 := Lib.hid (B1.out.trans (b2.mono B1.out.size))
  refine Hb.back b2 (Nat.le_refl _) ?_
  refine Hb.take (v := .bool true) 7 15 rfl ?_ (fun w' hw' => by go_simp; first | done | rfl | omega | exact wrap_in (by omega) (by omega) | exact Int.tmod_eq_emod_of_nonneg (by omega) | exact Int.tdiv_eq_ediv_of_nonneg (by omega) | (simp; omega))
  refine Hb.done ?_
-- END
  have HB := Lib.hid (show bestD n L = zero by unfold bestD; rw [TS.out, HM.out]; rfl)
  go_wp2_with ((with_reducible show wpList _ _ _ ((⟨none, Op.store 36 (.tmp 2) _, _, _, _, _⟩ : Oper) :: _) _ _); go_must (refine wpList_store_row rfl 36 (.tmp 2) (.tmp 16) rfl w.heap.size _ rfl rfl _ _ K2.out (by kernel_rfl) (by rfl) (by kernel_rfl) ?_))
  have B3 := B2.out.trans (grown_below (grown_row w2 w.heap.size #[.int .i64 0, .int .i64 0, .slice none 0 0, .int .i64 0]) (Nat.le_refl _) B2.out.size)
  exact bodyPost_ret (v := .tuple #[vv zero none 0, .bool false]) (results_rowB rfl _ _ w.heap.size _ _ _ _ rfl rfl (Blk.row K2.out #[.int .i64 0, .int .i64 0, .slice none 0 0, .int .i64 0]) Try.underlying36 rfl (by kernel_rfl)) rfl ⟨none, 0, by rw [HB.out, TS.out, HM.out], by rw [HB.out]; exact Rd.nil _ _ _, B3⟩

/-- What a round keeps. -/
structure DSt (w wr : World) (g4 : Nat) (L : List Vt) (a : Vt) (i : Nat) (b : Vt) (BA : Option Addr) (BC : Nat) (m : Int) : Prop where
  run : (L.take i).foldl stepD (a, 0) = (b, m)
  blk : Blk wr g4 36 [.int .i64 b.fr, .int .i64 b.last, .slice BA b.es.length BC, .int .i64 b.com]
  rd : Rd wr w.heap.size BA BC 7 b.es.length (els b.es)
  bel : Below w.heap.size w wr
theorem DSt.next {w wr wx : World} {g4 i : Nat} {L : List Vt} {a b x : Vt} {BA XA BA' : Option Addr} {BC XC BC' : Nat} {m : Int} (h : DSt w wr g4 L a i b BA BC m) (hx : L[i]? = some x) (hV : Rd w w.heap.size XA XC 7 x.es.length (els x.es))
    (hb : Below w.heap.size wr wx) {b' : Vt} (hK : Blk wx g4 36 [.int .i64 b'.fr, .int .i64 b'.last, .slice BA' b'.es.length BC', .int .i64 b'.com])
    (hp : better x b = true ∧ b' = x ∧ BA' = XA ∧ BC' = XC ∨ better x b = false ∧ b' = b ∧ BA' = BA ∧ BC' = BC) : DSt w wx g4 L a (i + 1) b' BA' BC' (max m x.com) := by
  refine ⟨?_, hK, ?_, h.bel.trans hb⟩
  · have e0 : L.take (i + 1) = L.take i ++ [x] := by rw [List.take_add_one, hx]; rfl
    rw [e0, List.foldl_append, h.run]
    show stepD (b, m) x = _
    unfold stepD
    rcases hp with ⟨q, rfl, -, -⟩ | ⟨q, rfl, -, -⟩
    · rw [if_pos q]
    · rw [if_neg (by rw [q]; decide)]
  · rcases hp with ⟨q, rfl, rfl, rfl⟩ | ⟨q, rfl, rfl, rfl⟩
    · exact hV.below (h.bel.trans hb)
    · exact h.rd.below hb

set_option maxHeartbeats 8000000 in
set_option maxRecDepth 100000 in
theorem rvbest_yes (w : World) (g : Nat) (F : List Nat) (view n : Int) (L : List Vt) (h : Rs w g F view n L) (h1 : ∀ x ∈ L, 1 ≤ x.fr ∧ x.fr ≤ 7) (hl : L.length ≤ 7) (t : Nat) (ht : tsum L = t) (hm : PTeam.most (t : Int) n = true) (a : Vt) (r : List Vt) (hL : L = a :: r) :
    Calls Try.prog 15 #[.pointer (some ⟨g, 0, none⟩)] w (RBestPost w n L) := by
  have E0 := Lib.hid (show L[0]? = some a by rw [hL]; rfl)
  have ER := Lib.hid (show L.foldl stepD (a, 0) = run L by rw [hL]; exact runD_eq a r (fun x hx => (h1 x (by rw [hL]; exact hx)).1))
  have L0 := Lib.hid (show 0 < L.length by rw [hL]; simp)
  have L7 := hl
  clear hL
  have H1 := Lib.hid h1
  have HL := Lib.hid hl
  have TS := Lib.hid ht
  have HM := Lib.hid hm
  have h' := h.alloc (.cells #[.int .i64 0, .int .i64 0, .slice none 0 0, .int .i64 0] 36)
  have LG := Lib.hid (show g < (w.alloc (.cells #[.int .i64 0, .int .i64 0, .slice none 0 0, .int .i64 0] 36)).drew.heap.size from h'.lt)
  have RS := Lib.hid (show Rs (w.alloc (.cells #[.int .i64 0, .int .i64 0, .slice none 0 0, .int .i64 0] 36)).drew g F view n L from h'.past (Below.refl _ _).drew)
  have K2 := Lib.hid (show Blk (w.alloc (.cells #[.int .i64 0, .int .i64 0, .slice none 0 0, .int .i64 0] 36)).drew w.heap.size 36 [.int .i64 0, .int .i64 0, .slice none 0 0, .int .i64 0] from Blk.new w #[.int .i64 0, .int .i64 0, .slice none 0 0, .int .i64 0] 36)
  have B1 := Lib.hid (show Below w.heap.size w (w.alloc (.cells #[.int .i64 0, .int .i64 0, .slice none 0 0, .int .i64 0] 36)).drew from ((Below.refl _ _).alloc (Nat.le_refl _) _).drew)
  obtain ⟨A0, c0, -, q1, -, -⟩ := RS.out.open
  have Q1 := Lib.hid q1
  clear h' q1 h1 hl ht hm
  have GLT := Lib.hid h.lt
  obtain ⟨A, c, -, -, q2, hat⟩ := h.open
  obtain ⟨b, VA, VC, rfl, hra, hrd⟩ := hat 0 a E0.out
  have BLT := Lib.hid (show b < w.heap.size by
    have := hra 0 _ rfl
    exact World.block_lt_of_cell? w ⟨b, 0 * 4 + 0, none⟩ this)
  have Q2 := Lib.hid q2
  have HAT := Lib.hid hat
  have HRA := Lib.hid (show w.rangeAt b 0 [.int .i64 a.fr, .int .i64 a.last, .slice VA a.es.length VC, .int .i64 a.com] by rw [Nat.zero_mul] at hra; exact hra)
  have HRD := Lib.hid hrd
  clear h q2 hat hra hrd
  go_enter Try.func15, Try.ntmps15
  go_wp2_with fail
  generalize w.alloc (.cells #[.int .i64 0, .int .i64 0, .slice none 0 0, .int .i64 0] 36) = w1 at *
-- REGION (*curfew/curfewref19.Votes).Best 1 vrbest1t 2
  refine Hb.begin ?_
  refine Hb.take (v := .pointer (some ⟨g, 0, none⟩)) 0 8 rfl ?_ (fun _ _ => rfl)
  refine Hb.take (v := .pointer (some ⟨g, 0, none⟩)) 2 10 rfl ?_ (fun _ _ => rfl)
  refine Hb.take (v := .pointer (some ⟨g, 0, none⟩)) 3 11 rfl ?_ (fun w' hw' => by go_simp; first | done | rfl | omega | exact wrap_in (by omega) (by omega) | exact Int.tmod_eq_emod_of_nonneg (by omega) | exact Int.tdiv_eq_ediv_of_nonneg (by omega) | (simp; omega))
  refine Hb.take (v := .pointer (some ⟨g, 1, none⟩)) 4 12 rfl ?_ (fun w' hw' => by go_simp; first | done | rfl | omega | exact wrap_in (by omega) (by omega) | exact Int.tmod_eq_emod_of_nonneg (by omega) | exact Int.tdiv_eq_ediv_of_nonneg (by omega) | (simp; omega))
  refine Hb.take (v := .int .i64 n) 5 13 rfl ?_ (fun w' hw' => by have cc := (hw'.cell (p := ⟨g, 1, none⟩) LG.out).trans Q1.out; go_simp)
  refine Hb.call (f := 17) (args := #[.pointer (some ⟨g, 0, none⟩)]) 1 9 rfl ?_ (run_callf Try.func17 (by kernel_rfl) (by kernel_rfl) (by simp only [List.map_toArray, List.map_cons, List.map_nil]; rfl))
  refine (rvTeam_c _ g F view n L RS.out H1.out HL.out).mono ?_
  rw [TS.out]
  rintro e w' ⟨rfl, rfl⟩
  refine Hb.back (Below.refl _ _) (Nat.le_refl _) ?_
  refine Hb.call (f := 19) (args := #[.int .i64 (t : Int), .int .i64 n]) 6 14 rfl ?_ (run_callf Try.func19 (by kernel_rfl) (by kernel_rfl) (by simp only [List.map_toArray, List.map_cons, List.map_nil]; rfl))
  refine (rtMost_c _ (t : Int) n).mono ?_
  rw [HM.out]
  rintro e w2 ⟨rfl, b2⟩
  have K2 := Lib.hid (K2.out.past b2)
  have B2 := Lib.hid (B1.out.trans (b2.mono B1.out.size))
  refine Hb.back b2 (Nat.le_refl _) ?_
  refine Hb.take (v := .bool false) 7 15 rfl ?_ (fun w' hw' => by go_simp; first | done | rfl | omega | exact wrap_in (by omega) (by omega) | exact Int.tmod_eq_emod_of_nonneg (by omega) | exact Int.tdiv_eq_ediv_of_nonneg (by omega) | (simp; omega))
  refine Hb.done ?_
-- END
  have HB := Lib.hid (show bestD n L = cutc (run L) by unfold bestD; rw [TS.out, HM.out]; rfl)
  have q2 := (B2.out.cell (p := ⟨g, 2, none⟩) GLT.out).trans Q2.out
  have HR2 := Lib.hid (rangeAt_below HRA.out B2.out BLT.out)
  have j0 : (0 : Int) < (L.length : Int) := by have := L0.out; omega
  have bA := (Below.refl w2.heap.size w2).alloc (Nat.le_refl _) (.cells #[.int .i64 a.fr, .int .i64 a.last, .slice VA a.es.length VC, .int .i64 a.com] 36)
  have K4 := Lib.hid (Blk.new w2 #[.int .i64 a.fr, .int .i64 a.last, .slice VA a.es.length VC, .int .i64 a.com] 36)
  have K3 := Lib.hid (K2.out.past bA)
  have B3 := Lib.hid (B2.out.trans (bA.mono B2.out.size))
  have NE := Lib.hid (show w.heap.size ≠ w2.heap.size by have := K2.out.lt; omega)
  have G4 := Lib.hid B2.out.size
  clear bA
  go_wp2_with ((with_reducible show wpList _ _ _ ((⟨some 22, Op.load _ _, _, _, _, _⟩ : Oper) :: _) _ _); go_must (refine wpList_load_mid rfl 36 (.tmp 21) rfl b (0) rfl ([.int .i64 a.fr, .int .i64 a.last, .slice VA a.es.length VC, .int .i64 a.com]) _ HR2.out Try.underlying36 rfl (by kernel_rfl) ?_))
  clear q2 HR2 K2
  generalize w2.alloc (.cells #[.int .i64 a.fr, .int .i64 a.last, .slice VA a.es.length VC, .int .i64 a.com] 36) = w3 at *
  generalize w2.heap.size = g4 at *
  have ST := Lib.hid (show DSt w w3 g4 L a 0 a VA VC 0 from ⟨rfl, K4.out, HRD.out.below B3.out, B3.out⟩)
  go_loopw [5, 6, 7] (fun s5 s6 _ wr => ∃ (i : Nat) (b : Vt) (BA : Option Addr) (BC : Nat) (m : Int), s6 = .int .i64 i ∧ s5 = .int .i64 m ∧ i ≤ L.length ∧ Hid (DSt w wr g4 L a i b BA BC m) ∧ Hid (Blk wr w.heap.size 36 [.int .i64 0, .int .i64 0, .slice none 0 0, .int .i64 0])) (fun _ s6 _ _ => L.length - (intOf s6).toNat)
  case atStart => exact ⟨0, a, VA, VC, 0, rfl, rfl, by omega, ST, K3⟩
  case round =>
    clear ST K3 K4
    obtain ⟨i, bb, BA, BC, m, rfl, rfl, hi, ST, KR⟩ := hrel
    have q2 := (ST.out.bel.cell (p := ⟨g, 2, none⟩) GLT.out).trans Q2.out
    by_cases hin : i < L.length
    · have jn : (i : Int) < (L.length : Int) := by omega
      obtain ⟨x, hx⟩ : ∃ x, L[i]? = some x := ⟨_, List.getElem?_eq_getElem hin⟩
      obtain ⟨b', XA, XC, eb, hxa, hxd⟩ := HAT.out i x hx
      cases eb
      have HX := Lib.hid hx
      have HXA := Lib.hid (rangeAt_below hxa ST.out.bel BLT.out)
      have HXD := Lib.hid hxd
      have bA := (Below.refl wr.heap.size wr).alloc (Nat.le_refl _) (.cells #[.int .i64 x.fr, .int .i64 x.last, .slice XA x.es.length XC, .int .i64 x.com] 36)
      have b5 := Lib.hid (bA.mono ST.out.bel.size)
      have K7 := Lib.hid (Blk.new wr #[.int .i64 x.fr, .int .i64 x.last, .slice XA x.es.length XC, .int .i64 x.com] 36)
      have KB := Lib.hid (ST.out.blk.past bA)
      have KR5 := Lib.hid (KR.out.past bA)
      have NE7 := Lib.hid (show wr.heap.size ≠ g4 by have := ST.out.blk.lt; omega)
      clear hx hxa hxd bA
      go_upto_region 10 with ((with_reducible show wpList _ _ _ ((⟨some 38, Op.load _ _, _, _, _, _⟩ : Oper) :: _) _ _); go_must (refine wpList_load_mid rfl 36 (.tmp 37) rfl b (i * 4) rfl ([.int .i64 x.fr, .int .i64 x.last, .slice XA x.es.length XC, .int .i64 x.com]) _ HXA.out Try.underlying36 rfl (by kernel_rfl) ?_))
      generalize wr.alloc (.cells #[.int .i64 x.fr, .int .i64 x.last, .slice XA x.es.length XC, .int .i64 x.com] 36) = w5 at *
      generalize wr.heap.size = g7 at *
      clear q2 HXA
      have x0 := K7.out.cell (i := 0) rfl
      have x1 := K7.out.cell (i := 1) rfl
      have x2 := K7.out.cell (i := 2) rfl
      have y0 := KB.out.cell (i := 0) rfl
      have y1 := KB.out.cell (i := 1) rfl
      have y2 := KB.out.cell (i := 2) rfl
      obtain ⟨bt, hbt⟩ : ∃ bt, better x bb = bt := ⟨_, rfl⟩
      have HBT := Lib.hid (show bt = decide (bb.last < x.last ∨ x.last = bb.last ∧ (bb.es.length < x.es.length ∨ x.es.length = bb.es.length ∧ x.fr < bb.fr)) by rw [← hbt]; rfl)
      have HBB := Lib.hid hbt
      clear hbt
      go_cut [79] from 43 to 79 (fun s79 wx => s79 = .bool bt ∧ w5 = wx)
      case first =>
        by_cases d1 : bb.last < x.last
        · go_wp2_with fail
          go_meet
          case rel => exact ⟨by rw [HBT.out, decide_eq_true (by omega)], rfl⟩
        · by_cases d2 : x.last = bb.last
          · have r2 : (x.last == bb.last) = true := by simpa using d2
            have D2 := Lib.hid d2
            clear d2
            by_cases d3 : (bb.es.length : Int) < (x.es.length : Int)
            · go_wp2_with fail
              go_meet
              case rel => exact ⟨by rw [HBT.out, decide_eq_true (by have e2 := D2.out; omega)], rfl⟩
            · by_cases d4 : x.es.length = bb.es.length
              · have r4 : ((x.es.length : Int) == (bb.es.length : Int)) = true := by rw [d4]; simp
                have D4 := Lib.hid d4
                clear d4
                by_cases d5 : x.fr < bb.fr
                · go_wp2_with fail
                  go_meet
                  case rel => exact ⟨by rw [HBT.out, decide_eq_true (by have e2 := D2.out; have e4 := D4.out; omega)], rfl⟩
                · go_wp2_with fail
                  go_meet
                  case rel => exact ⟨by rw [HBT.out, decide_eq_false (by have e2 := D2.out; have e4 := D4.out; omega)], rfl⟩
              · have r4 : ((x.es.length : Int) == (bb.es.length : Int)) = false := by simp; omega
                go_wp2_with fail
                go_meet
                case rel => exact ⟨by rw [HBT.out, decide_eq_false (by have e2 := D2.out; omega)], rfl⟩
          · have r2 : (x.last == bb.last) = false := by simpa using d2
            go_wp2_with fail
            go_meet
            case rel => exact ⟨by rw [HBT.out, decide_eq_false (by omega)], rfl⟩
      case rest =>
        obtain ⟨rfl, rfl⟩ := hcut
        cases bt with
        | true =>
          have KS := Lib.hid (KB.out.row #[.int .i64 x.fr, .int .i64 x.last, .slice XA x.es.length XC, .int .i64 x.com])
          have GS := grown_row w5 g4 #[.int .i64 x.fr, .int .i64 x.last, .slice XA x.es.length XC, .int .i64 x.com]
          have BS := Lib.hid (b5.out.trans (grown_below GS G4.out (by have := ST.out.bel.size; have := b5.out.size; omega)))
          have KRS := Lib.hid (KR5.out.far GS NE.out)
          clear GS
          go_wp2_with (first | ((with_reducible show wpList _ _ _ ((⟨some 80, Op.load _ _, _, _, _, _⟩ : Oper) :: _) _ _); go_must (refine wpList_load_row rfl 36 (.tmp 7) rfl g7 rfl 36 #[.int .i64 x.fr, .int .i64 x.last, .slice XA x.es.length XC, .int .i64 x.com] (0, 0) _ K7.out Try.underlying36 rfl (by kernel_rfl) ?_)) | ((with_reducible show wpList _ _ _ ((⟨none, Op.store 36 (.tmp 4) _, _, _, _, _⟩ : Oper) :: _) _ _); go_must (refine wpList_store_row rfl 36 (.tmp 4) (.tmp 80) rfl g4 _ rfl rfl _ _ KB.out (by kernel_rfl) (by rfl) (by kernel_rfl) ?_)))
          go_roundw
          case rel => exact ⟨i + 1, x, XA, XC, max m x.com, by go_num, rfl, by omega, Lib.hid (ST.out.next HX.out HXD.out BS.out KS.out (.inl ⟨HBB.out, rfl, rfl, rfl⟩)), KRS⟩
          case measure => simp [intOf]; omega
        | false =>
          go_wp2_with fail
          go_roundw
          case rel => exact ⟨i + 1, bb, BA, BC, max m x.com, by go_num, rfl, by omega, Lib.hid (ST.out.next HX.out HXD.out b5.out KB.out (.inr ⟨HBB.out, rfl, rfl, rfl⟩)), KR5⟩
          case measure => simp [intOf]; omega
    · obtain rfl : i = L.length := by omega
      have HRUN := Lib.hid (show run L = (bb, m) by have := ST.out.run; rw [List.take_length] at this; rw [← ER.out]; exact this)
      have KB := Lib.hid ST.out.blk
      have y2 := KB.out.cell (i := 2) rfl
      have y3 := KB.out.cell (i := 3) rfl
      have f3 := KB.out.free 3
      have KE := Lib.hid (show Blk (wr.setCell ⟨g4, 3, none⟩ (.int .i64 (min m bb.es.length))) g4 36 [.int .i64 bb.fr, .int .i64 bb.last, .slice BA bb.es.length BC, .int .i64 (min m bb.es.length)] from KB.out.set 3 (.int .i64 (min m bb.es.length)))
      have GE := grown_set wr g4 3 (.int .i64 (min m bb.es.length))
      have KF := Lib.hid (KR.out.far GE NE.out)
      have BE := Lib.hid (ST.out.bel.trans (grown_below GE G4.out ST.out.bel.size))
      clear GE
      go_wp2_with (first | ((with_reducible show wpList _ _ _ ((⟨some 87, Op.load _ _, _, _, _, _⟩ : Oper) :: _) _ _); go_must (refine wpList_load_row rfl 36 (.tmp 4) rfl g4 rfl 36 #[.int .i64 bb.fr, .int .i64 bb.last, .slice BA bb.es.length BC, .int .i64 (min m bb.es.length)] (0, 0) _ KE.out Try.underlying36 rfl (by kernel_rfl) ?_)) | ((with_reducible show wpList _ _ _ ((⟨none, Op.store 36 (.tmp 2) _, _, _, _, _⟩ : Oper) :: _) _ _); go_must (refine wpList_store_row rfl 36 (.tmp 2) (.tmp 87) rfl w.heap.size _ rfl rfl _ _ KF.out (by kernel_rfl) (by rfl) (by kernel_rfl) ?_)))
      have KZ := KF.out.row #[.int .i64 bb.fr, .int .i64 bb.last, .slice BA bb.es.length BC, .int .i64 (min m bb.es.length)]
      have GZ := grown_row (wr.setCell ⟨g4, 3, none⟩ (.int .i64 (min m bb.es.length))) w.heap.size #[.int .i64 bb.fr, .int .i64 bb.last, .slice BA bb.es.length BC, .int .i64 (min m bb.es.length)]
      have BZ := BE.out.trans (grown_below GZ (Nat.le_refl _) BE.out.size)
      have RZ := (ST.out.rd.below ((grown_below (grown_set wr g4 3 (.int .i64 (min m bb.es.length))) G4.out ST.out.bel.size).trans (grown_below GZ (Nat.le_refl _) BE.out.size))).more BZ.size
      have ebest : bestD n L = ⟨bb.fr, bb.last, bb.es, min m bb.es.length⟩ := by rw [HB.out, HRUN.out]; rfl
      exact bodyPost_ret (v := .tuple #[vv (bestD n L) BA BC, .bool true]) (by rw [ebest]; exact results_rowB rfl _ _ w.heap.size _ _ _ _ rfl rfl KZ Try.underlying36 rfl (by kernel_rfl)) rfl ⟨BA, BC, by rw [TS.out, HM.out], by rw [ebest]; exact RZ, BZ⟩
end Go.Proofs.Ytheeigbljjcbpaa
