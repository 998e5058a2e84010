/- The document's Add of votes, legs 6, 7. -/
import Derived.Test.YtheeigbljjcbpaaVoteS
namespace Go.Proofs.Ytheeigbljjcbpaa
open Go.RowKit PVote

set_option maxHeartbeats 8000000 in
set_option maxRecDepth 100000 in
theorem rvadd_6 (w : World) (g : Nat) (F : List Nat) (view n : Int) (L : List Vt) (h : Rs w g F view n L) (h1 : ∀ x ∈ L, 1 ≤ x.fr ∧ x.fr ≤ 7) (hl : L.length ≤ 7) (t m : Nat) (ht : tsum L = t) (lt : t < 128) (fr last com : Int) (es : List Ent) (hm : (PLog.log es).length = m) (VA : Option Addr) (VC : Nat) (hE : Ow w 0 52 7 VA es.length VC (els es)) (c0 : 1 ≤ fr) (c1 : fr ≤ n) (hh : PTeam.has t fr = false) (c3 : 0 ≤ last) (c4 : last < view) (nm : m = es.length) (c6 : com < 0) :
    Calls Try.prog 13 #[.pointer (some ⟨g, 0, none⟩), .agg #[.int .i64 fr, .int .i64 last, .slice VA es.length VC, .int .i64 com]] w fun e w' => e = .returned (.bool false) ∧ Below w.heap.size w w' := by
  have k3 := Blk.new w #[.int .i64 fr, .int .i64 last, .slice VA es.length VC, .int .i64 com] 36
  have h' := h.alloc (.cells #[.int .i64 fr, .int .i64 last, .slice VA es.length VC, .int .i64 com] 36)
  have L3 := Lib.hid (show w.heap.size < (w.alloc (.cells #[.int .i64 fr, .int .i64 last, .slice VA es.length VC, .int .i64 com] 36)).drew.heap.size from k3.lt)
  have LG := Lib.hid (show g < (w.alloc (.cells #[.int .i64 fr, .int .i64 last, .slice VA es.length VC, .int .i64 com] 36)).drew.heap.size from h'.lt)
  have K3 := Lib.hid (show Blk (w.alloc (.cells #[.int .i64 fr, .int .i64 last, .slice VA es.length VC, .int .i64 com] 36)).drew w.heap.size 36 [.int .i64 fr, .int .i64 last, .slice VA es.length VC, .int .i64 com] from k3)
  have RS := Lib.hid (show Rs (w.alloc (.cells #[.int .i64 fr, .int .i64 last, .slice VA es.length VC, .int .i64 com] 36)).drew g F view n L from h'.past (Below.refl _ _).drew)
  have XO := Lib.hid (show Ow (w.alloc (.cells #[.int .i64 fr, .int .i64 last, .slice VA es.length VC, .int .i64 com] 36)).drew 0 52 7 VA es.length VC (els es) from (hE.past ((Below.refl _ _).alloc (Nat.le_refl _) (.cells #[.int .i64 fr, .int .i64 last, .slice VA es.length VC, .int .i64 com] 36))).past (Below.refl _ _).drew)
  have RS0 := Lib.hid (fun (w3 : World) (b : Below (w.alloc (.cells #[.int .i64 fr, .int .i64 last, .slice VA es.length VC, .int .i64 com] 36)).drew.heap.size (w.alloc (.cells #[.int .i64 fr, .int .i64 last, .slice VA es.length VC, .int .i64 com] 36)).drew w3) => RS.out.past b)
  have XO0 := Lib.hid (fun (w3 : World) (b : Below (w.alloc (.cells #[.int .i64 fr, .int .i64 last, .slice VA es.length VC, .int .i64 com] 36)).drew.heap.size (w.alloc (.cells #[.int .i64 fr, .int .i64 last, .slice VA es.length VC, .int .i64 com] 36)).drew w3) => XO.out.past b)
  obtain ⟨A, c, q0, q1, -, -⟩ := RS.out.open
  have Q0 := Lib.hid q0
  have Q1 := Lib.hid q1
  have RE := Lib.hid XO.out.rd
  have BT := Lib.hid (show Below w.heap.size w (w.alloc (.cells #[.int .i64 fr, .int .i64 last, .slice VA es.length VC, .int .i64 com] 36)).drew from ((Below.refl _ _).alloc (Nat.le_refl _) _).drew)
  have BTS := Lib.hid BT.out.size
  have H1 := Lib.hid h1
  have HL := Lib.hid hl
  have TS := Lib.hid ht
  have LT := Lib.hid lt
  have HM := Lib.hid hm
  have HH := Lib.hid hh
  have NM := Lib.hid nm
  clear k3 h h' q0 q1 h1 hl ht lt hm hE hh nm
  go_enter Try.func13, Try.ntmps13
  go_wp2_with fail
  generalize (w.alloc (.cells #[.int .i64 fr, .int .i64 last, .slice VA es.length VC, .int .i64 com] 36)) = w1 at *
-- REGION (*curfew/curfewref19.Votes).Add 1 vradd6 2
  refine Hb.begin ?_
  refine Hb.take (v := .pointer (some ⟨w.heap.size, 0, none⟩)) 0 5 rfl ?_ (fun w' hw' => by go_simp; first | done | rfl | omega | exact wrap_in (by omega) (by omega) | exact Int.tmod_eq_emod_of_nonneg (by omega) | exact Int.tdiv_eq_ediv_of_nonneg (by omega) | (simp; omega))
  refine Hb.take (v := .int .i64 fr) 1 6 rfl ?_ (fun w' hw' => by have cc := (K3.out.below hw' L3.out).cell (i := 0) rfl; go_simp)
  refine Hb.take (v := .bool false) 2 7 rfl ?_ (fun w' hw' => by go_simp; first | done | rfl | omega | exact wrap_in (by omega) (by omega) | exact Int.tmod_eq_emod_of_nonneg (by omega) | exact Int.tdiv_eq_ediv_of_nonneg (by omega) | (simp; omega))
  refine Hb.take (v := .bool false) 3 8 rfl ?_ (fun _ _ => rfl)
  refine Hb.take (v := .pointer (some ⟨w.heap.size, 0, none⟩)) 4 9 rfl ?_ (fun w' hw' => by go_simp; first | done | rfl | omega | exact wrap_in (by omega) (by omega) | exact Int.tmod_eq_emod_of_nonneg (by omega) | exact Int.tdiv_eq_ediv_of_nonneg (by omega) | (simp; omega))
  refine Hb.take (v := .int .i64 fr) 5 10 rfl ?_ (fun w' hw' => by have cc := (K3.out.below hw' L3.out).cell (i := 0) rfl; go_simp)
  refine Hb.take (v := .pointer (some ⟨g, 0, none⟩)) 6 11 rfl ?_ (fun _ _ => rfl)
  refine Hb.take (v := .pointer (some ⟨g, 0, none⟩)) 7 12 rfl ?_ (fun w' hw' => by go_simp; first | done | rfl | omega | exact wrap_in (by omega) (by omega) | exact Int.tmod_eq_emod_of_nonneg (by omega) | exact Int.tdiv_eq_ediv_of_nonneg (by omega) | (simp; omega))
  refine Hb.take (v := .pointer (some ⟨g, 1, none⟩)) 8 13 rfl ?_ (fun w' hw' => by go_simp; first | done | rfl | omega | exact wrap_in (by omega) (by omega) | exact Int.tmod_eq_emod_of_nonneg (by omega) | exact Int.tdiv_eq_ediv_of_nonneg (by omega) | (simp; omega))
  refine Hb.take (v := .int .i64 n) 9 14 rfl ?_ (fun w' hw' => by have cc := (hw'.cell (p := ⟨g, 1, none⟩) LG.out).trans Q1.out; go_simp)
  refine Hb.take (v := .bool false) 10 15 rfl ?_ (fun w' hw' => by go_simp; first | done | rfl | omega | exact wrap_in (by omega) (by omega) | exact Int.tmod_eq_emod_of_nonneg (by omega) | exact Int.tdiv_eq_ediv_of_nonneg (by omega) | (simp; omega))
  refine Hb.take (v := .bool false) 11 16 rfl ?_ (fun _ _ => rfl)
  refine Hb.take (v := .bool false) 12 17 rfl ?_ (fun _ _ => rfl)
  refine Hb.take (v := .pointer (some ⟨g, 0, none⟩)) 13 18 rfl ?_ (fun _ _ => rfl)
  refine Hb.take (v := .pointer (some ⟨w.heap.size, 0, none⟩)) 15 20 rfl ?_ (fun w' hw' => by go_simp; first | done | rfl | omega | exact wrap_in (by omega) (by omega) | exact Int.tmod_eq_emod_of_nonneg (by omega) | exact Int.tdiv_eq_ediv_of_nonneg (by omega) | (simp; omega))
  refine Hb.take (v := .int .i64 fr) 16 21 rfl ?_ (fun w' hw' => by have cc := (K3.out.below hw' L3.out).cell (i := 0) rfl; go_simp)
  refine Hb.call (f := 17) (args := #[.pointer (some ⟨g, 0, none⟩)]) 14 19 rfl ?_ (run_callf Try.func17 (by kernel_rfl) (by kernel_rfl) (by simp only [List.map_toArray, List.map_cons, List.map_nil]; rfl))
  refine (rvTeam_c _ g F view n L RS.out H1.out HL.out).mono ?_
  rw [TS.out]
  rintro e w' ⟨rfl, rfl⟩
  refine Hb.back (Below.refl _ _) (Nat.le_refl _) ?_
  refine Hb.call (f := 32) (args := #[.int .i64 (t : Int), .int .i64 fr]) 17 22 rfl ?_ (run_callf Try.func32 (by kernel_rfl) (by kernel_rfl) (by simp only [List.map_toArray, List.map_cons, List.map_nil]; rfl))
  refine (rtHas_c _ t fr LT.out).mono ?_
  rw [HH.out]
  rintro e w2 ⟨rfl, b2⟩
  have K3 := Lib.hid (K3.out.below b2 L3.out)
  have Q0 := Lib.hid ((b2.cell (p := ⟨g, 0, none⟩) LG.out).trans Q0.out)
  have Q1 := Lib.hid ((b2.cell (p := ⟨g, 1, none⟩) LG.out).trans Q1.out)
  have RS := Lib.hid (RS.out.past b2)
  have RE := Lib.hid (RE.out.past b2)
  have BT := Lib.hid (BT.out.trans (b2.mono BT.out.size))
  have BD := Lib.hid (show Below w1.drew.heap.size w1.drew w2 from b2)
  refine Hb.back b2 (Nat.le_refl _) ?_
  refine Hb.take (v := .bool false) 18 23 rfl ?_ (fun _ _ => rfl)
  refine Hb.take (v := .bool false) 19 24 rfl ?_ (fun _ _ => rfl)
  refine Hb.take (v := .pointer (some ⟨w.heap.size, 1, none⟩)) 20 25 rfl ?_ (fun w' hw' => by go_simp; first | done | rfl | omega | exact wrap_in (by omega) (by omega) | exact Int.tmod_eq_emod_of_nonneg (by omega) | exact Int.tdiv_eq_ediv_of_nonneg (by omega) | (simp; omega))
  refine Hb.take (v := .int .i64 last) 21 26 rfl ?_ (fun w' hw' => by have cc := (K3.out.below hw' L3.out).cell (i := 1) rfl; go_simp)
  refine Hb.take (v := .bool false) 22 27 rfl ?_ (fun w' hw' => by go_simp; first | done | rfl | omega | exact wrap_in (by omega) (by omega) | exact Int.tmod_eq_emod_of_nonneg (by omega) | exact Int.tdiv_eq_ediv_of_nonneg (by omega) | (simp; omega))
  refine Hb.take (v := .bool false) 23 28 rfl ?_ (fun _ _ => rfl)
  refine Hb.take (v := .bool false) 24 29 rfl ?_ (fun _ _ => rfl)
  refine Hb.take (v := .pointer (some ⟨w.heap.size, 1, none⟩)) 25 30 rfl ?_ (fun w' hw' => by go_simp; first | done | rfl | omega | exact wrap_in (by omega) (by omega) | exact Int.tmod_eq_emod_of_nonneg (by omega) | exact Int.tdiv_eq_ediv_of_nonneg (by omega) | (simp; omega))
  refine Hb.take (v := .int .i64 last) 26 31 rfl ?_ (fun w' hw' => by have cc := (K3.out.below hw' L3.out).cell (i := 1) rfl; go_simp)
  refine Hb.take (v := .pointer (some ⟨g, 0, none⟩)) 27 32 rfl ?_ (fun _ _ => rfl)
  refine Hb.take (v := .pointer (some ⟨g, 0, none⟩)) 28 33 rfl ?_ (fun w' hw' => by go_simp; first | done | rfl | omega | exact wrap_in (by omega) (by omega) | exact Int.tmod_eq_emod_of_nonneg (by omega) | exact Int.tdiv_eq_ediv_of_nonneg (by omega) | (simp; omega))
  refine Hb.take (v := .pointer (some ⟨g, 0, none⟩)) 29 34 rfl ?_ (fun w' hw' => by go_simp; first | done | rfl | omega | exact wrap_in (by omega) (by omega) | exact Int.tmod_eq_emod_of_nonneg (by omega) | exact Int.tdiv_eq_ediv_of_nonneg (by omega) | (simp; omega))
  refine Hb.take (v := .int .i64 view) 30 35 rfl ?_ (fun w' hw' => by have cc := (hw'.cell (p := ⟨g, 0, none⟩) LG.out).trans Q0.out; go_simp)
  refine Hb.take (v := .bool false) 31 36 rfl ?_ (fun w' hw' => by go_simp; first | done | rfl | omega | exact wrap_in (by omega) (by omega) | exact Int.tmod_eq_emod_of_nonneg (by omega) | exact Int.tdiv_eq_ediv_of_nonneg (by omega) | (simp; omega))
  refine Hb.take (v := .bool false) 32 37 rfl ?_ (fun _ _ => rfl)
  refine Hb.take (v := .bool false) 33 38 rfl ?_ (fun _ _ => rfl)
  refine Hb.take (v := .pointer (some ⟨w.heap.size, 2, none⟩)) 34 39 rfl ?_ (fun w' hw' => by go_simp; first | done | rfl | omega | exact wrap_in (by omega) (by omega) | exact Int.tmod_eq_emod_of_nonneg (by omega) | exact Int.tdiv_eq_ediv_of_nonneg (by omega) | (simp; omega))
  refine Hb.take (v := .slice VA es.length VC) 35 40 rfl ?_ (fun w' hw' => by have cc := (K3.out.below hw' L3.out).cell (i := 2) rfl; go_simp)
  refine Hb.take (v := .pointer (some ⟨w.heap.size, 2, none⟩)) 38 43 rfl ?_ (fun w' hw' => by go_simp; first | done | rfl | omega | exact wrap_in (by omega) (by omega) | exact Int.tmod_eq_emod_of_nonneg (by omega) | exact Int.tdiv_eq_ediv_of_nonneg (by omega) | (simp; omega))
  refine Hb.take (v := .slice VA es.length VC) 39 44 rfl ?_ (fun w' hw' => by have cc := (K3.out.below hw' L3.out).cell (i := 2) rfl; go_simp)
  refine Hb.take (v := .int .i64 (es.length : Int)) 40 45 rfl ?_ (fun w' hw' => by go_simp; first | done | rfl | omega | exact wrap_in (by omega) (by omega) | exact Int.tmod_eq_emod_of_nonneg (by omega) | exact Int.tdiv_eq_ediv_of_nonneg (by omega) | (simp; omega))
  refine Hb.call (f := 22) (args := #[.slice VA es.length VC]) 36 41 rfl ?_ (run_callf Try.func22 (by kernel_rfl) (by kernel_rfl) (by simp only [List.map_toArray, List.map_cons, List.map_nil]; rfl))
  refine (rLog_c w2 _ VA VC es.length es RE.out).mono ?_
  rw [HM.out]
  rintro e w3 ⟨A3, C3, rfl, -, b3⟩
  have b3 := b3.mono (show w1.drew.heap.size ≤ w2.heap.size from BD.out.size)
  have K3 := Lib.hid (K3.out.below b3 L3.out)
  have RS := Lib.hid (RS0.out w3 (BD.out.trans b3))
  have XO := Lib.hid (XO0.out w3 (BD.out.trans b3))
  have BT := Lib.hid (BT.out.trans (b3.mono BTS.out))
  refine Hb.back b3 (Nat.le_refl _) ?_
  refine Hb.take (v := .int .i64 (m : Int)) 37 42 rfl ?_ (fun w' hw' => by go_simp; first | done | rfl | omega | exact wrap_in (by omega) (by omega) | exact Int.tmod_eq_emod_of_nonneg (by omega) | exact Int.tdiv_eq_ediv_of_nonneg (by omega) | (simp; omega))
  refine Hb.take (v := .bool false) 41 46 rfl ?_ (fun w' hw' => by have hNM := NM.out; go_simp; all_goals (first | omega | (simp; omega)))
  refine Hb.take (v := .bool false) 42 47 rfl ?_ (fun _ _ => rfl)
  refine Hb.take (v := .bool false) 43 48 rfl ?_ (fun _ _ => rfl)
  refine Hb.take (v := .pointer (some ⟨w.heap.size, 3, none⟩)) 44 49 rfl ?_ (fun w' hw' => by go_simp; first | done | rfl | omega | exact wrap_in (by omega) (by omega) | exact Int.tmod_eq_emod_of_nonneg (by omega) | exact Int.tdiv_eq_ediv_of_nonneg (by omega) | (simp; omega))
  refine Hb.take (v := .int .i64 com) 45 50 rfl ?_ (fun w' hw' => by have cc := (K3.out.below hw' L3.out).cell (i := 3) rfl; go_simp)
  refine Hb.take (v := .bool true) 46 51 rfl ?_ (fun w' hw' => by go_simp; first | done | rfl | omega | exact wrap_in (by omega) (by omega) | exact Int.tmod_eq_emod_of_nonneg (by omega) | exact Int.tdiv_eq_ediv_of_nonneg (by omega) | (simp; omega))
  refine Hb.take (v := .bool true) 47 52 rfl ?_ (fun _ _ => rfl)
  refine Hb.take (v := .bool true) 48 53 rfl ?_ (fun _ _ => rfl)
  refine Hb.pass 49 54 rfl ?_
  refine Hb.pass 50 55 rfl ?_
  refine Hb.pass 51 56 rfl ?_
  refine Hb.pass 52 57 rfl ?_
  refine Hb.pass 53 58 rfl ?_
  refine Hb.pass 54 59 rfl ?_
  refine Hb.take (v := .bool true) 55 60 rfl ?_ (fun _ _ => rfl)
  refine Hb.done ?_
-- END
  have FIN := BT.out
  go_wp2_with fail
  go_ret
  exact ⟨rfl, FIN⟩

set_option maxHeartbeats 8000000 in
set_option maxRecDepth 100000 in
theorem rvadd_7 (w : World) (g : Nat) (F : List Nat) (view n : Int) (L : List Vt) (h : Rs w g F view n L) (h1 : ∀ x ∈ L, 1 ≤ x.fr ∧ x.fr ≤ 7) (hl : L.length ≤ 7) (t m : Nat) (ht : tsum L = t) (lt : t < 128) (fr last com : Int) (es : List Ent) (hm : (PLog.log es).length = m) (VA : Option Addr) (VC : Nat) (hE : Ow w 0 52 7 VA es.length VC (els es)) (c0 : 1 ≤ fr) (c1 : fr ≤ n) (hh : PTeam.has t fr = false) (c3 : 0 ≤ last) (c4 : last < view) (nm : m = es.length) (c6 : 0 ≤ com) (c7 : (es.length : Int) < com) :
    Calls Try.prog 13 #[.pointer (some ⟨g, 0, none⟩), .agg #[.int .i64 fr, .int .i64 last, .slice VA es.length VC, .int .i64 com]] w fun e w' => e = .returned (.bool false) ∧ Below w.heap.size w w' := by
  have k3 := Blk.new w #[.int .i64 fr, .int .i64 last, .slice VA es.length VC, .int .i64 com] 36
  have h' := h.alloc (.cells #[.int .i64 fr, .int .i64 last, .slice VA es.length VC, .int .i64 com] 36)
  have L3 := Lib.hid (show w.heap.size < (w.alloc (.cells #[.int .i64 fr, .int .i64 last, .slice VA es.length VC, .int .i64 com] 36)).drew.heap.size from k3.lt)
  have LG := Lib.hid (show g < (w.alloc (.cells #[.int .i64 fr, .int .i64 last, .slice VA es.length VC, .int .i64 com] 36)).drew.heap.size from h'.lt)
  have K3 := Lib.hid (show Blk (w.alloc (.cells #[.int .i64 fr, .int .i64 last, .slice VA es.length VC, .int .i64 com] 36)).drew w.heap.size 36 [.int .i64 fr, .int .i64 last, .slice VA es.length VC, .int .i64 com] from k3)
  have RS := Lib.hid (show Rs (w.alloc (.cells #[.int .i64 fr, .int .i64 last, .slice VA es.length VC, .int .i64 com] 36)).drew g F view n L from h'.past (Below.refl _ _).drew)
  have XO := Lib.hid (show Ow (w.alloc (.cells #[.int .i64 fr, .int .i64 last, .slice VA es.length VC, .int .i64 com] 36)).drew 0 52 7 VA es.length VC (els es) from (hE.past ((Below.refl _ _).alloc (Nat.le_refl _) (.cells #[.int .i64 fr, .int .i64 last, .slice VA es.length VC, .int .i64 com] 36))).past (Below.refl _ _).drew)
  have RS0 := Lib.hid (fun (w3 : World) (b : Below (w.alloc (.cells #[.int .i64 fr, .int .i64 last, .slice VA es.length VC, .int .i64 com] 36)).drew.heap.size (w.alloc (.cells #[.int .i64 fr, .int .i64 last, .slice VA es.length VC, .int .i64 com] 36)).drew w3) => RS.out.past b)
  have XO0 := Lib.hid (fun (w3 : World) (b : Below (w.alloc (.cells #[.int .i64 fr, .int .i64 last, .slice VA es.length VC, .int .i64 com] 36)).drew.heap.size (w.alloc (.cells #[.int .i64 fr, .int .i64 last, .slice VA es.length VC, .int .i64 com] 36)).drew w3) => XO.out.past b)
  obtain ⟨A, c, q0, q1, -, -⟩ := RS.out.open
  have Q0 := Lib.hid q0
  have Q1 := Lib.hid q1
  have RE := Lib.hid XO.out.rd
  have BT := Lib.hid (show Below w.heap.size w (w.alloc (.cells #[.int .i64 fr, .int .i64 last, .slice VA es.length VC, .int .i64 com] 36)).drew from ((Below.refl _ _).alloc (Nat.le_refl _) _).drew)
  have BTS := Lib.hid BT.out.size
  have H1 := Lib.hid h1
  have HL := Lib.hid hl
  have TS := Lib.hid ht
  have LT := Lib.hid lt
  have HM := Lib.hid hm
  have HH := Lib.hid hh
  have NM := Lib.hid nm
  clear k3 h h' q0 q1 h1 hl ht lt hm hE hh nm
  go_enter Try.func13, Try.ntmps13
  go_wp2_with fail
  generalize (w.alloc (.cells #[.int .i64 fr, .int .i64 last, .slice VA es.length VC, .int .i64 com] 36)) = w1 at *
-- REGION (*curfew/curfewref19.Votes).Add 1 vradd7 2
  refine Hb.begin ?_
  refine Hb.take (v := .pointer (some ⟨w.heap.size, 0, none⟩)) 0 5 rfl ?_ (fun w' hw' => by go_simp; first | done | rfl | omega | exact wrap_in (by omega) (by omega) | exact Int.tmod_eq_emod_of_nonneg (by omega) | exact Int.tdiv_eq_ediv_of_nonneg (by omega) | (simp; omega))
  refine Hb.take (v := .int .i64 fr) 1 6 rfl ?_ (fun w' hw' => by have cc := (K3.out.below hw' L3.out).cell (i := 0) rfl; go_simp)
  refine Hb.take (v := .bool false) 2 7 rfl ?_ (fun w' hw' => by go_simp; first | done | rfl | omega | exact wrap_in (by omega) (by omega) | exact Int.tmod_eq_emod_of_nonneg (by omega) | exact Int.tdiv_eq_ediv_of_nonneg (by omega) | (simp; omega))
  refine Hb.take (v := .bool false) 3 8 rfl ?_ (fun _ _ => rfl)
  refine Hb.take (v := .pointer (some ⟨w.heap.size, 0, none⟩)) 4 9 rfl ?_ (fun w' hw' => by go_simp; first | done | rfl | omega | exact wrap_in (by omega) (by omega) | exact Int.tmod_eq_emod_of_nonneg (by omega) | exact Int.tdiv_eq_ediv_of_nonneg (by omega) | (simp; omega))
  refine Hb.take (v := .int .i64 fr) 5 10 rfl ?_ (fun w' hw' => by have cc := (K3.out.below hw' L3.out).cell (i := 0) rfl; go_simp)
  refine Hb.take (v := .pointer (some ⟨g, 0, none⟩)) 6 11 rfl ?_ (fun _ _ => rfl)
  refine Hb.take (v := .pointer (some ⟨g, 0, none⟩)) 7 12 rfl ?_ (fun w' hw' => by go_simp; first | done | rfl | omega | exact wrap_in (by omega) (by omega) | exact Int.tmod_eq_emod_of_nonneg (by omega) | exact Int.tdiv_eq_ediv_of_nonneg (by omega) | (simp; omega))
  refine Hb.take (v := .pointer (some ⟨g, 1, none⟩)) 8 13 rfl ?_ (fun w' hw' => by go_simp; first | done | rfl | omega | exact wrap_in (by omega) (by omega) | exact Int.tmod_eq_emod_of_nonneg (by omega) | exact Int.tdiv_eq_ediv_of_nonneg (by omega) | (simp; omega))
  refine Hb.take (v := .int .i64 n) 9 14 rfl ?_ (fun w' hw' => by have cc := (hw'.cell (p := ⟨g, 1, none⟩) LG.out).trans Q1.out; go_simp)
  refine Hb.take (v := .bool false) 10 15 rfl ?_ (fun w' hw' => by go_simp; first | done | rfl | omega | exact wrap_in (by omega) (by omega) | exact Int.tmod_eq_emod_of_nonneg (by omega) | exact Int.tdiv_eq_ediv_of_nonneg (by omega) | (simp; omega))
  refine Hb.take (v := .bool false) 11 16 rfl ?_ (fun _ _ => rfl)
  refine Hb.take (v := .bool false) 12 17 rfl ?_ (fun _ _ => rfl)
  refine Hb.take (v := .pointer (some ⟨g, 0, none⟩)) 13 18 rfl ?_ (fun _ _ => rfl)
  refine Hb.take (v := .pointer (some ⟨w.heap.size, 0, none⟩)) 15 20 rfl ?_ (fun w' hw' => by go_simp; first | done | rfl | omega | exact wrap_in (by omega) (by omega) | exact Int.tmod_eq_emod_of_nonneg (by omega) | exact Int.tdiv_eq_ediv_of_nonneg (by omega) | (simp; omega))
  refine Hb.take (v := .int .i64 fr) 16 21 rfl ?_ (fun w' hw' => by have cc := (K3.out.below hw' L3.out).cell (i := 0) rfl; go_simp)
  refine Hb.call (f := 17) (args := #[.pointer (some ⟨g, 0, none⟩)]) 14 19 rfl ?_ (run_callf Try.func17 (by kernel_rfl) (by kernel_rfl) (by simp only [List.map_toArray, List.map_cons, List.map_nil]; rfl))
  refine (rvTeam_c _ g F view n L RS.out H1.out HL.out).mono ?_
  rw [TS.out]
  rintro e w' ⟨rfl, rfl⟩
  refine Hb.back (Below.refl _ _) (Nat.le_refl _) ?_
  refine Hb.call (f := 32) (args := #[.int .i64 (t : Int), .int .i64 fr]) 17 22 rfl ?_ (run_callf Try.func32 (by kernel_rfl) (by kernel_rfl) (by simp only [List.map_toArray, List.map_cons, List.map_nil]; rfl))
  refine (rtHas_c _ t fr LT.out).mono ?_
  rw [HH.out]
  rintro e w2 ⟨rfl, b2⟩
  have K3 := Lib.hid (K3.out.below b2 L3.out)
  have Q0 := Lib.hid ((b2.cell (p := ⟨g, 0, none⟩) LG.out).trans Q0.out)
  have Q1 := Lib.hid ((b2.cell (p := ⟨g, 1, none⟩) LG.out).trans Q1.out)
  have RS := Lib.hid (RS.out.past b2)
  have RE := Lib.hid (RE.out.past b2)
  have BT := Lib.hid (BT.out.trans (b2.mono BT.out.size))
  have BD := Lib.hid (show Below w1.drew.heap.size w1.drew w2 from b2)
  refine Hb.back b2 (Nat.le_refl _) ?_
  refine Hb.take (v := .bool false) 18 23 rfl ?_ (fun _ _ => rfl)
  refine Hb.take (v := .bool false) 19 24 rfl ?_ (fun _ _ => rfl)
  refine Hb.take (v := .pointer (some ⟨w.heap.size, 1, none⟩)) 20 25 rfl ?_ (fun w' hw' => by go_simp; first | done | rfl | omega | exact wrap_in (by omega) (by omega) | exact Int.tmod_eq_emod_of_nonneg (by omega) | exact Int.tdiv_eq_ediv_of_nonneg (by omega) | (simp; omega))
  refine Hb.take (v := .int .i64 last) 21 26 rfl ?_ (fun w' hw' => by have cc := (K3.out.below hw' L3.out).cell (i := 1) rfl; go_simp)
  refine Hb.take (v := .bool false) 22 27 rfl ?_ (fun w' hw' => by go_simp; first | done | rfl | omega | exact wrap_in (by omega) (by omega) | exact Int.tmod_eq_emod_of_nonneg (by omega) | exact Int.tdiv_eq_ediv_of_nonneg (by omega) | (simp; omega))
  refine Hb.take (v := .bool false) 23 28 rfl ?_ (fun _ _ => rfl)
  refine Hb.take (v := .bool false) 24 29 rfl ?_ (fun _ _ => rfl)
  refine Hb.take (v := .pointer (some ⟨w.heap.size, 1, none⟩)) 25 30 rfl ?_ (fun w' hw' => by go_simp; first | done | rfl | omega | exact wrap_in (by omega) (by omega) | exact Int.tmod_eq_emod_of_nonneg (by omega) | exact Int.tdiv_eq_ediv_of_nonneg (by omega) | (simp; omega))
  refine Hb.take (v := .int .i64 last) 26 31 rfl ?_ (fun w' hw' => by have cc := (K3.out.below hw' L3.out).cell (i := 1) rfl; go_simp)
  refine Hb.take (v := .pointer (some ⟨g, 0, none⟩)) 27 32 rfl ?_ (fun _ _ => rfl)
  refine Hb.take (v := .pointer (some ⟨g, 0, none⟩)) 28 33 rfl ?_ (fun w' hw' => by go_simp; first | done | rfl | omega | exact wrap_in (by omega) (by omega) | exact Int.tmod_eq_emod_of_nonneg (by omega) | exact Int.tdiv_eq_ediv_of_nonneg (by omega) | (simp; omega))
  refine Hb.take (v := .pointer (some ⟨g, 0, none⟩)) 29 34 rfl ?_ (fun w' hw' => by go_simp; first | done | rfl | omega | exact wrap_in (by omega) (by omega) | exact Int.tmod_eq_emod_of_nonneg (by omega) | exact Int.tdiv_eq_ediv_of_nonneg (by omega) | (simp; omega))
  refine Hb.take (v := .int .i64 view) 30 35 rfl ?_ (fun w' hw' => by have cc := (hw'.cell (p := ⟨g, 0, none⟩) LG.out).trans Q0.out; go_simp)
  refine Hb.take (v := .bool false) 31 36 rfl ?_ (fun w' hw' => by go_simp; first | done | rfl | omega | exact wrap_in (by omega) (by omega) | exact Int.tmod_eq_emod_of_nonneg (by omega) | exact Int.tdiv_eq_ediv_of_nonneg (by omega) | (simp; omega))
  refine Hb.take (v := .bool false) 32 37 rfl ?_ (fun _ _ => rfl)
  refine Hb.take (v := .bool false) 33 38 rfl ?_ (fun _ _ => rfl)
  refine Hb.take (v := .pointer (some ⟨w.heap.size, 2, none⟩)) 34 39 rfl ?_ (fun w' hw' => by go_simp; first | done | rfl | omega | exact wrap_in (by omega) (by omega) | exact Int.tmod_eq_emod_of_nonneg (by omega) | exact Int.tdiv_eq_ediv_of_nonneg (by omega) | (simp; omega))
  refine Hb.take (v := .slice VA es.length VC) 35 40 rfl ?_ (fun w' hw' => by have cc := (K3.out.below hw' L3.out).cell (i := 2) rfl; go_simp)
  refine Hb.take (v := .pointer (some ⟨w.heap.size, 2, none⟩)) 38 43 rfl ?_ (fun w' hw' => by go_simp; first | done | rfl | omega | exact wrap_in (by omega) (by omega) | exact Int.tmod_eq_emod_of_nonneg (by omega) | exact Int.tdiv_eq_ediv_of_nonneg (by omega) | (simp; omega))
  refine Hb.take (v := .slice VA es.length VC) 39 44 rfl ?_ (fun w' hw' => by have cc := (K3.out.below hw' L3.out).cell (i := 2) rfl; go_simp)
  refine Hb.take (v := .int .i64 (es.length : Int)) 40 45 rfl ?_ (fun w' hw' => by go_simp; first | done | rfl | omega | exact wrap_in (by omega) (by omega) | exact Int.tmod_eq_emod_of_nonneg (by omega) | exact Int.tdiv_eq_ediv_of_nonneg (by omega) | (simp; omega))
  refine Hb.call (f := 22) (args := #[.slice VA es.length VC]) 36 41 rfl ?_ (run_callf Try.func22 (by kernel_rfl) (by kernel_rfl) (by simp only [List.map_toArray, List.map_cons, List.map_nil]; rfl))
  refine (rLog_c w2 _ VA VC es.length es RE.out).mono ?_
  rw [HM.out]
  rintro e w3 ⟨A3, C3, rfl, -, b3⟩
  have b3 := b3.mono (show w1.drew.heap.size ≤ w2.heap.size from BD.out.size)
  have K3 := Lib.hid (K3.out.below b3 L3.out)
  have RS := Lib.hid (RS0.out w3 (BD.out.trans b3))
  have XO := Lib.hid (XO0.out w3 (BD.out.trans b3))
  have BT := Lib.hid (BT.out.trans (b3.mono BTS.out))
  refine Hb.back b3 (Nat.le_refl _) ?_
  refine Hb.take (v := .int .i64 (m : Int)) 37 42 rfl ?_ (fun w' hw' => by go_simp; first | done | rfl | omega | exact wrap_in (by omega) (by omega) | exact Int.tmod_eq_emod_of_nonneg (by omega) | exact Int.tdiv_eq_ediv_of_nonneg (by omega) | (simp; omega))
  refine Hb.take (v := .bool false) 41 46 rfl ?_ (fun w' hw' => by have hNM := NM.out; go_simp; all_goals (first | omega | (simp; omega)))
  refine Hb.take (v := .bool false) 42 47 rfl ?_ (fun _ _ => rfl)
  refine Hb.take (v := .bool false) 43 48 rfl ?_ (fun _ _ => rfl)
  refine Hb.take (v := .pointer (some ⟨w.heap.size, 3, none⟩)) 44 49 rfl ?_ (fun w' hw' => by go_simp; first | done | rfl | omega | exact wrap_in (by omega) (by omega) | exact Int.tmod_eq_emod_of_nonneg (by omega) | exact Int.tdiv_eq_ediv_of_nonneg (by omega) | (simp; omega))
  refine Hb.take (v := .int .i64 com) 45 50 rfl ?_ (fun w' hw' => by have cc := (K3.out.below hw' L3.out).cell (i := 3) rfl; go_simp)
  refine Hb.take (v := .bool false) 46 51 rfl ?_ (fun w' hw' => by go_simp; first | done | rfl | omega | exact wrap_in (by omega) (by omega) | exact Int.tmod_eq_emod_of_nonneg (by omega) | exact Int.tdiv_eq_ediv_of_nonneg (by omega) | (simp; omega))
  refine Hb.take (v := .bool false) 47 52 rfl ?_ (fun _ _ => rfl)
  refine Hb.take (v := .bool false) 48 53 rfl ?_ (fun _ _ => rfl)
  refine Hb.take (v := .pointer (some ⟨w.heap.size, 3, none⟩)) 49 54 rfl ?_ (fun w' hw' => by go_simp; first | done | rfl | omega | exact wrap_in (by omega) (by omega) | exact Int.tmod_eq_emod_of_nonneg (by omega) | exact Int.tdiv_eq_ediv_of_nonneg (by omega) | (simp; omega))
  refine Hb.take (v := .int .i64 com) 50 55 rfl ?_ (fun w' hw' => by have cc := (K3.out.below hw' L3.out).cell (i := 3) rfl; go_simp)
  refine Hb.take (v := .pointer (some ⟨w.heap.size, 2, none⟩)) 51 56 rfl ?_ (fun w' hw' => by go_simp; first | done | rfl | omega | exact wrap_in (by omega) (by omega) | exact Int.tmod_eq_emod_of_nonneg (by omega) | exact Int.tdiv_eq_ediv_of_nonneg (by omega) | (simp; omega))
  refine Hb.take (v := .slice VA es.length VC) 52 57 rfl ?_ (fun w' hw' => by have cc := (K3.out.below hw' L3.out).cell (i := 2) rfl; go_simp)
  refine Hb.take (v := .int .i64 (es.length : Int)) 53 58 rfl ?_ (fun w' hw' => by go_simp; first | done | rfl | omega | exact wrap_in (by omega) (by omega) | exact Int.tmod_eq_emod_of_nonneg (by omega) | exact Int.tdiv_eq_ediv_of_nonneg (by omega) | (simp; omega))
  refine Hb.take (v := .bool true) 54 59 rfl ?_ (fun w' hw' => by go_simp; first | done | rfl | omega | exact wrap_in (by omega) (by omega) | exact Int.tmod_eq_emod_of_nonneg (by omega) | exact Int.tdiv_eq_ediv_of_nonneg (by omega) | (simp; omega))
  refine Hb.take (v := .bool true) 55 60 rfl ?_ (fun _ _ => rfl)
  refine Hb.done ?_
-- END
  have FIN := BT.out
  go_wp2_with fail
  go_ret
  exact ⟨rfl, FIN⟩
end Go.Proofs.Ytheeigbljjcbpaa
