/- The document's Add of votes, legs 0, 1, 2. -/
import Derived.Test.YtheeigbljjcbpaaVoteS
namespace Go.Proofs.Ytheeigbljjcbpaa
open Go.RowKit PVote

set_option maxHeartbeats 8000000 in
set_option maxRecDepth 100000 in
theorem rvadd_0 (w : World) (g : Nat) (F : List Nat) (view n : Int) (L : List Vt) (h : Rs w g F view n L) (h1 : ∀ x ∈ L, 1 ≤ x.fr ∧ x.fr ≤ 7) (hl : L.length ≤ 7) (t m : Nat) (ht : tsum L = t) (lt : t < 128) (fr last com : Int) (es : List Ent) (hm : (PLog.log es).length = m) (VA : Option Addr) (VC : Nat) (hE : Ow w 0 52 7 VA es.length VC (els es)) (c0 : fr < 1) :
    Calls Try.prog 13 #[.pointer (some ⟨g, 0, none⟩), .agg #[.int .i64 fr, .int .i64 last, .slice VA es.length VC, .int .i64 com]] w fun e w' => e = .returned (.bool false) ∧ Below w.heap.size w w' := by
  have k3 := Blk.new w #[.int .i64 fr, .int .i64 last, .slice VA es.length VC, .int .i64 com] 36
  have h' := h.alloc (.cells #[.int .i64 fr, .int .i64 last, .slice VA es.length VC, .int .i64 com] 36)
  have L3 := Lib.hid (show w.heap.size < (w.alloc (.cells #[.int .i64 fr, .int .i64 last, .slice VA es.length VC, .int .i64 com] 36)).drew.heap.size from k3.lt)
  have LG := Lib.hid (show g < (w.alloc (.cells #[.int .i64 fr, .int .i64 last, .slice VA es.length VC, .int .i64 com] 36)).drew.heap.size from h'.lt)
  have K3 := Lib.hid (show Blk (w.alloc (.cells #[.int .i64 fr, .int .i64 last, .slice VA es.length VC, .int .i64 com] 36)).drew w.heap.size 36 [.int .i64 fr, .int .i64 last, .slice VA es.length VC, .int .i64 com] from k3)
  have RS := Lib.hid (show Rs (w.alloc (.cells #[.int .i64 fr, .int .i64 last, .slice VA es.length VC, .int .i64 com] 36)).drew g F view n L from h'.past (Below.refl _ _).drew)
  have XO := Lib.hid (show Ow (w.alloc (.cells #[.int .i64 fr, .int .i64 last, .slice VA es.length VC, .int .i64 com] 36)).drew 0 52 7 VA es.length VC (els es) from (hE.past ((Below.refl _ _).alloc (Nat.le_refl _) (.cells #[.int .i64 fr, .int .i64 last, .slice VA es.length VC, .int .i64 com] 36))).past (Below.refl _ _).drew)
  have RS0 := Lib.hid (fun (w3 : World) (b : Below (w.alloc (.cells #[.int .i64 fr, .int .i64 last, .slice VA es.length VC, .int .i64 com] 36)).drew.heap.size (w.alloc (.cells #[.int .i64 fr, .int .i64 last, .slice VA es.length VC, .int .i64 com] 36)).drew w3) => RS.out.past b)
  have XO0 := Lib.hid (fun (w3 : World) (b : Below (w.alloc (.cells #[.int .i64 fr, .int .i64 last, .slice VA es.length VC, .int .i64 com] 36)).drew.heap.size (w.alloc (.cells #[.int .i64 fr, .int .i64 last, .slice VA es.length VC, .int .i64 com] 36)).drew w3) => XO.out.past b)
  obtain ⟨A, c, q0, q1, -, -⟩ := RS.out.open
  have Q0 := Lib.hid q0
  have Q1 := Lib.hid q1
  have RE := Lib.hid XO.out.rd
  have BT := Lib.hid (show Below w.heap.size w (w.alloc (.cells #[.int .i64 fr, .int .i64 last, .slice VA es.length VC, .int .i64 com] 36)).drew from ((Below.refl _ _).alloc (Nat.le_refl _) _).drew)
  have BTS := Lib.hid BT.out.size
  have H1 := Lib.hid h1
  have HL := Lib.hid hl
  have TS := Lib.hid ht
  have LT := Lib.hid lt
  have HM := Lib.hid hm
  clear k3 h h' q0 q1 h1 hl ht lt hm hE
  go_enter Try.func13, Try.ntmps13
  go_wp2_with fail
  generalize (w.alloc (.cells #[.int .i64 fr, .int .i64 last, .slice VA es.length VC, .int .i64 com] 36)) = w1 at *
-- REGION (*curfew/curfewref19.Votes).Add 1 vradd0 2
  refine Hb.begin ?_
  refine Hb.take (v := .pointer (some ⟨w.heap.size, 0, none⟩)) 0 5 rfl ?_ (fun w' hw' => by go_simp; first | done | rfl | omega | exact wrap_in (by omega) (by omega) | exact Int.tmod_eq_emod_of_nonneg (by omega) | exact Int.tdiv_eq_ediv_of_nonneg (by omega) | (simp; omega))
  refine Hb.take (v := .int .i64 fr) 1 6 rfl ?_ (fun w' hw' => by have cc := (K3.out.below hw' L3.out).cell (i := 0) rfl; go_simp)
  refine Hb.take (v := .bool true) 2 7 rfl ?_ (fun w' hw' => by go_simp; first | done | rfl | omega | exact wrap_in (by omega) (by omega) | exact Int.tmod_eq_emod_of_nonneg (by omega) | exact Int.tdiv_eq_ediv_of_nonneg (by omega) | (simp; omega))
  refine Hb.take (v := .bool true) 3 8 rfl ?_ (fun _ _ => rfl)
  refine Hb.pass 4 9 rfl ?_
  refine Hb.pass 5 10 rfl ?_
  refine Hb.pass 6 11 rfl ?_
  refine Hb.pass 7 12 rfl ?_
  refine Hb.pass 8 13 rfl ?_
  refine Hb.pass 9 14 rfl ?_
  refine Hb.pass 10 15 rfl ?_
  refine Hb.take (v := .bool true) 11 16 rfl ?_ (fun _ _ => rfl)
  refine Hb.take (v := .bool true) 12 17 rfl ?_ (fun _ _ => rfl)
  refine Hb.pass 13 18 rfl ?_
  refine Hb.pass 14 19 rfl ?_
  refine Hb.pass 15 20 rfl ?_
  refine Hb.pass 16 21 rfl ?_
  refine Hb.pass 17 22 rfl ?_
  refine Hb.take (v := .bool true) 18 23 rfl ?_ (fun _ _ => rfl)
  refine Hb.take (v := .bool true) 19 24 rfl ?_ (fun _ _ => rfl)
  refine Hb.pass 20 25 rfl ?_
  refine Hb.pass 21 26 rfl ?_
  refine Hb.pass 22 27 rfl ?_
  refine Hb.take (v := .bool true) 23 28 rfl ?_ (fun _ _ => rfl)
  refine Hb.take (v := .bool true) 24 29 rfl ?_ (fun _ _ => rfl)
  refine Hb.pass 25 30 rfl ?_
  refine Hb.pass 26 31 rfl ?_
  refine Hb.pass 27 32 rfl ?_
  refine Hb.pass 28 33 rfl ?_
  refine Hb.pass 29 34 rfl ?_
  refine Hb.pass 30 35 rfl ?_
  refine Hb.pass 31 36 rfl ?_
  refine Hb.take (v := .bool true) 32 37 rfl ?_ (fun _ _ => rfl)
  refine Hb.take (v := .bool true) 33 38 rfl ?_ (fun _ _ => rfl)
  refine Hb.pass 34 39 rfl ?_
  refine Hb.pass 35 40 rfl ?_
  refine Hb.pass 36 41 rfl ?_
  refine Hb.pass 37 42 rfl ?_
  refine Hb.pass 38 43 rfl ?_
  refine Hb.pass 39 44 rfl ?_
  refine Hb.pass 40 45 rfl ?_
  refine Hb.pass 41 46 rfl ?_
  refine Hb.take (v := .bool true) 42 47 rfl ?_ (fun _ _ => rfl)
  refine Hb.take (v := .bool true) 43 48 rfl ?_ (fun _ _ => rfl)
  refine Hb.pass 44 49 rfl ?_
  refine Hb.pass 45 50 rfl ?_
  refine Hb.pass 46 51 rfl ?_
  refine Hb.take (v := .bool true) 47 52 rfl ?_ (fun _ _ => rfl)
  refine Hb.take (v := .bool true) 48 53 rfl ?_ (fun _ _ => rfl)
  refine Hb.pass 49 54 rfl ?_
  refine Hb.pass 50 55 rfl ?_
  refine Hb.pass 51 56 rfl ?_
  refine Hb.pass 52 57 rfl ?_
  refine Hb.pass 53 58 rfl ?_
  refine Hb.pass 54 59 rfl ?_
  refine Hb.take (v := .bool true) 55 60 rfl ?_ (fun _ _ => rfl)
  refine Hb.done ?_
-- END
  have FIN := BT.out
  go_wp2_with fail
  go_ret
  exact ⟨rfl, FIN⟩

set_option maxHeartbeats 8000000 in
set_option maxRecDepth 100000 in
theorem rvadd_1 (w : World) (g : Nat) (F : List Nat) (view n : Int) (L : List Vt) (h : Rs w g F view n L) (h1 : ∀ x ∈ L, 1 ≤ x.fr ∧ x.fr ≤ 7) (hl : L.length ≤ 7) (t m : Nat) (ht : tsum L = t) (lt : t < 128) (fr last com : Int) (es : List Ent) (hm : (PLog.log es).length = m) (VA : Option Addr) (VC : Nat) (hE : Ow w 0 52 7 VA es.length VC (els es)) (c0 : 1 ≤ fr) (c1 : n < fr) :
    Calls Try.prog 13 #[.pointer (some ⟨g, 0, none⟩), .agg #[.int .i64 fr, .int .i64 last, .slice VA es.length VC, .int .i64 com]] w fun e w' => e = .returned (.bool false) ∧ Below w.heap.size w w' := by
  have k3 := Blk.new w #[.int .i64 fr, .int .i64 last, .slice VA es.length VC, .int .i64 com] 36
  have h' := h.alloc (.cells #[.int .i64 fr, .int .i64 last, .slice VA es.length VC, .int .i64 com] 36)
  have L3 := Lib.hid (show w.heap.size < (w.alloc (.cells #[.int .i64 fr, .int .i64 last, .slice VA es.length VC, .int .i64 com] 36)).drew.heap.size from k3.lt)
  have LG := Lib.hid (show g < (w.alloc (.cells #[.int .i64 fr, .int .i64 last, .slice VA es.length VC, .int .i64 com] 36)).drew.heap.size from h'.lt)
  have K3 := Lib.hid (show Blk (w.alloc (.cells #[.int .i64 fr, .int .i64 last, .slice VA es.length VC, .int .i64 com] 36)).drew w.heap.size 36 [.int .i64 fr, .int .i64 last, .slice VA es.length VC, .int .i64 com] from k3)
  have RS := Lib.hid (show Rs (w.alloc (.cells #[.int .i64 fr, .int .i64 last, .slice VA es.length VC, .int .i64 com] 36)).drew g F view n L from h'.past (Below.refl _ _).drew)
  have XO := Lib.hid (show Ow (w.alloc (.cells #[.int .i64 fr, .int .i64 last, .slice VA es.length VC, .int .i64 com] 36)).drew 0 52 7 VA es.length VC (els es) from (hE.past ((Below.refl _ _).alloc (Nat.le_refl _) (.cells #[.int .i64 fr, .int .i64 last, .slice VA es.length VC, .int .i64 com] 36))).past (Below.refl _ _).drew)
  have RS0 := Lib.hid (fun (w3 : World) (b : Below (w.alloc (.cells #[.int .i64 fr, .int .i64 last, .slice VA es.length VC, .int .i64 com] 36)).drew.heap.size (w.alloc (.cells #[.int .i64 fr, .int .i64 last, .slice VA es.length VC, .int .i64 com] 36)).drew w3) => RS.out.past b)
  have XO0 := Lib.hid (fun (w3 : World) (b : Below (w.alloc (.cells #[.int .i64 fr, .int .i64 last, .slice VA es.length VC, .int .i64 com] 36)).drew.heap.size (w.alloc (.cells #[.int .i64 fr, .int .i64 last, .slice VA es.length VC, .int .i64 com] 36)).drew w3) => XO.out.past b)
  obtain ⟨A, c, q0, q1, -, -⟩ := RS.out.open
  have Q0 := Lib.hid q0
  have Q1 := Lib.hid q1
  have RE := Lib.hid XO.out.rd
  have BT := Lib.hid (show Below w.heap.size w (w.alloc (.cells #[.int .i64 fr, .int .i64 last, .slice VA es.length VC, .int .i64 com] 36)).drew from ((Below.refl _ _).alloc (Nat.le_refl _) _).drew)
  have BTS := Lib.hid BT.out.size
  have H1 := Lib.hid h1
  have HL := Lib.hid hl
  have TS := Lib.hid ht
  have LT := Lib.hid lt
  have HM := Lib.hid hm
  clear k3 h h' q0 q1 h1 hl ht lt hm hE
  go_enter Try.func13, Try.ntmps13
  go_wp2_with fail
  generalize (w.alloc (.cells #[.int .i64 fr, .int .i64 last, .slice VA es.length VC, .int .i64 com] 36)) = w1 at *
-- REGION (*curfew/curfewref19.Votes).Add 1 vradd1 2
  refine Hb.begin ?_
  refine Hb.take (v := .pointer (some ⟨w.heap.size, 0, none⟩)) 0 5 rfl ?_ (fun w' hw' => by go_simp; first | done | rfl | omega | exact wrap_in (by omega) (by omega) | exact Int.tmod_eq_emod_of_nonneg (by omega) | exact Int.tdiv_eq_ediv_of_nonneg (by omega) | (simp; omega))
  refine Hb.take (v := .int .i64 fr) 1 6 rfl ?_ (fun w' hw' => by have cc := (K3.out.below hw' L3.out).cell (i := 0) rfl; go_simp)
  refine Hb.take (v := .bool false) 2 7 rfl ?_ (fun w' hw' => by go_simp; first | done | rfl | omega | exact wrap_in (by omega) (by omega) | exact Int.tmod_eq_emod_of_nonneg (by omega) | exact Int.tdiv_eq_ediv_of_nonneg (by omega) | (simp; omega))
  refine Hb.take (v := .bool false) 3 8 rfl ?_ (fun _ _ => rfl)
  refine Hb.take (v := .pointer (some ⟨w.heap.size, 0, none⟩)) 4 9 rfl ?_ (fun w' hw' => by go_simp; first | done | rfl | omega | exact wrap_in (by omega) (by omega) | exact Int.tmod_eq_emod_of_nonneg (by omega) | exact Int.tdiv_eq_ediv_of_nonneg (by omega) | (simp; omega))
  refine Hb.take (v := .int .i64 fr) 5 10 rfl ?_ (fun w' hw' => by have cc := (K3.out.below hw' L3.out).cell (i := 0) rfl; go_simp)
  refine Hb.take (v := .pointer (some ⟨g, 0, none⟩)) 6 11 rfl ?_ (fun _ _ => rfl)
  refine Hb.take (v := .pointer (some ⟨g, 0, none⟩)) 7 12 rfl ?_ (fun w' hw' => by go_simp; first | done | rfl | omega | exact wrap_in (by omega) (by omega) | exact Int.tmod_eq_emod_of_nonneg (by omega) | exact Int.tdiv_eq_ediv_of_nonneg (by omega) | (simp; omega))
  refine Hb.take (v := .pointer (some ⟨g, 1, none⟩)) 8 13 rfl ?_ (fun w' hw' => by go_simp; first | done | rfl | omega | exact wrap_in (by omega) (by omega) | exact Int.tmod_eq_emod_of_nonneg (by omega) | exact Int.tdiv_eq_ediv_of_nonneg (by omega) | (simp; omega))
  refine Hb.take (v := .int .i64 n) 9 14 rfl ?_ (fun w' hw' => by have cc := (hw'.cell (p := ⟨g, 1, none⟩) LG.out).trans Q1.out; go_simp)
  refine Hb.take (v := .bool true) 10 15 rfl ?_ (fun w' hw' => by go_simp; first | done | rfl | omega | exact wrap_in (by omega) (by omega) | exact Int.tmod_eq_emod_of_nonneg (by omega) | exact Int.tdiv_eq_ediv_of_nonneg (by omega) | (simp; omega))
  refine Hb.take (v := .bool true) 11 16 rfl ?_ (fun _ _ => rfl)
  refine Hb.take (v := .bool true) 12 17 rfl ?_ (fun _ _ => rfl)
  refine Hb.pass 13 18 rfl ?_
  refine Hb.pass 14 19 rfl ?_
  refine Hb.pass 15 20 rfl ?_
  refine Hb.pass 16 21 rfl ?_
  refine Hb.pass 17 22 rfl ?_
  refine Hb.take (v := .bool true) 18 23 rfl ?_ (fun _ _ => rfl)
  refine Hb.take (v := .bool true) 19 24 rfl ?_ (fun _ _ => rfl)
  refine Hb.pass 20 25 rfl ?_
  refine Hb.pass 21 26 rfl ?_
  refine Hb.pass 22 27 rfl ?_
  refine Hb.take (v := .bool true) 23 28 rfl ?_ (fun _ _ => rfl)
  refine Hb.take (v := .bool true) 24 29 rfl ?_ (fun _ _ => rfl)
  refine Hb.pass 25 30 rfl ?_
  refine Hb.pass 26 31 rfl ?_
  refine Hb.pass 27 32 rfl ?_
  refine Hb.pass 28 33 rfl ?_
  refine Hb.pass 29 34 rfl ?_
  refine Hb.pass 30 35 rfl ?_
  refine Hb.pass 31 36 rfl ?_
  refine Hb.take (v := .bool true) 32 37 rfl ?_ (fun _ _ => rfl)
  refine Hb.take (v := .bool true) 33 38 rfl ?_ (fun _ _ => rfl)
  refine Hb.pass 34 39 rfl ?_
  refine Hb.pass 35 40 rfl ?_
  refine Hb.pass 36 41 rfl ?_
  refine Hb.pass 37 42 rfl ?_
  refine Hb.pass 38 43 rfl ?_
  refine Hb.pass 39 44 rfl ?_
  refine Hb.pass 40 45 rfl ?_
  refine Hb.pass 41 46 rfl ?_
  refine Hb.take (v := .bool true) 42 47 rfl ?_ (fun _ _ => rfl)
  refine Hb.take (v := .bool true) 43 48 rfl ?_ (fun _ _ => rfl)
  refine Hb.pass 44 49 rfl ?_
  refine Hb.pass 45 50 rfl ?_
  refine Hb.pass 46 51 rfl ?_
  refine Hb.take (v := .bool true) 47 52 rfl ?_ (fun _ _ => rfl)
  refine Hb.take (v := .bool true) 48 53 rfl ?_ (fun _ _ => rfl)
  refine Hb.pass 49 54 rfl ?_
  refine Hb.pass 50 55 rfl ?_
  refine Hb.pass 51 56 rfl ?_
  refine Hb.pass 52 57 rfl ?_
  refine Hb.pass 53 58 rfl ?_
  refine Hb.pass 54 59 rfl ?_
  refine Hb.take (v := .bool true) 55 60 rfl ?_ (fun _ _ => rfl)
  refine Hb.done ?_
-- END
  have FIN := BT.out
  go_wp2_with fail
  go_ret
  exact ⟨rfl, FIN⟩

set_option maxHeartbeats 8000000 in
set_option maxRecDepth 100000 in
theorem rvadd_2 (w : World) (g : Nat) (F : List Nat) (view n : Int) (L : List Vt) (h : Rs w g F view n L) (h1 : ∀ x ∈ L, 1 ≤ x.fr ∧ x.fr ≤ 7) (hl : L.length ≤ 7) (t m : Nat) (ht : tsum L = t) (lt : t < 128) (fr last com : Int) (es : List Ent) (hm : (PLog.log es).length = m) (VA : Option Addr) (VC : Nat) (hE : Ow w 0 52 7 VA es.length VC (els es)) (c0 : 1 ≤ fr) (c1 : fr ≤ n) (hh : PTeam.has t fr = true) :
    Calls Try.prog 13 #[.pointer (some ⟨g, 0, none⟩), .agg #[.int .i64 fr, .int .i64 last, .slice VA es.length VC, .int .i64 com]] w fun e w' => e = .returned (.bool false) ∧ Below w.heap.size w w' := by
  have k3 := Blk.new w #[.int .i64 fr, .int .i64 last, .slice VA es.length VC, .int .i64 com] 36
  have h' := h.alloc (.cells #[.int .i64 fr, .int .i64 last, .slice VA es.length VC, .int .i64 com] 36)
  have L3 := Lib.hid (show w.heap.size < (w.alloc (.cells #[.int .i64 fr, .int .i64 last, .slice VA es.length VC, .int .i64 com] 36)).drew.heap.size from k3.lt)
  have LG := Lib.hid (show g < (w.alloc (.cells #[.int .i64 fr, .int .i64 last, .slice VA es.length VC, .int .i64 com] 36)).drew.heap.size from h'.lt)
  have K3 := Lib.hid (show Blk (w.alloc (.cells #[.int .i64 fr, .int .i64 last, .slice VA es.length VC, .int .i64 com] 36)).drew w.heap.size 36 [.int .i64 fr, .int .i64 last, .slice VA es.length VC, .int .i64 com] from k3)
  have RS := Lib.hid (show Rs (w.alloc (.cells #[.int .i64 fr, .int .i64 last, .slice VA es.length VC, .int .i64 com] 36)).drew g F view n L from h'.past (Below.refl _ _).drew)
  have XO := Lib.hid (show Ow (w.alloc (.cells #[.int .i64 fr, .int .i64 last, .slice VA es.length VC, .int .i64 com] 36)).drew 0 52 7 VA es.length VC (els es) from (hE.past ((Below.refl _ _).alloc (Nat.le_refl _) (.cells #[.int .i64 fr, .int .i64 last, .slice VA es.length VC, .int .i64 com] 36))).past (Below.refl _ _).drew)
  have RS0 := Lib.hid (fun (w3 : World) (b : Below (w.alloc (.cells #[.int .i64 fr, .int .i64 last, .slice VA es.length VC, .int .i64 com] 36)).drew.heap.size (w.alloc (.cells #[.int .i64 fr, .int .i64 last, .slice VA es.length VC, .int .i64 com] 36)).drew w3) => RS.out.past b)
  have XO0 := Lib.hid (fun (w3 : World) (b : Below (w.alloc (.cells #[.int .i64 fr, .int .i64 last, .slice VA es.length VC, .int .i64 com] 36)).drew.heap.size (w.alloc (.cells #[.int .i64 fr, .int .i64 last, .slice VA es.length VC, .int .i64 com] 36)).drew w3) => XO.out.past b)
  obtain ⟨A, c, q0, q1, -, -⟩ := RS.out.open
  have Q0 := Lib.hid q0
  have Q1 := Lib.hid q1
  have RE := Lib.hid XO.out.rd
  have BT := Lib.hid (show Below w.heap.size w (w.alloc (.cells #[.int .i64 fr, .int .i64 last, .slice VA es.length VC, .int .i64 com] 36)).drew from ((Below.refl _ _).alloc (Nat.le_refl _) _).drew)
  have BTS := Lib.hid BT.out.size
  have H1 := Lib.hid h1
  have HL := Lib.hid hl
  have TS := Lib.hid ht
  have LT := Lib.hid lt
  have HM := Lib.hid hm
  have HH := Lib.hid hh
  clear k3 h h' q0 q1 h1 hl ht lt hm hE hh
  go_enter Try.func13, Try.ntmps13
  go_wp2_with fail
  generalize (w.alloc (.cells #[.int .i64 fr, .int .i64 last, .slice VA es.length VC, .int .i64 com] 36)) = w1 at *
-- REGION (*curfew/curfewref19.Votes).Add 1 vradd2 2
  refine Hb.begin ?_
  refine Hb.take (v := .pointer (some ⟨w.heap.size, 0, none⟩)) 0 5 rfl ?_ (fun w' hw' => by go_simp; first | done | rfl | omega | exact wrap_in (by omega) (by omega) | exact Int.tmod_eq_emod_of_nonneg (by omega) | exact Int.tdiv_eq_ediv_of_nonneg (by omega) | (simp; omega))
  refine Hb.take (v := .int .i64 fr) 1 6 rfl ?_ (fun w' hw' => by have cc := (K3.out.below hw' L3.out).cell (i := 0) rfl; go_simp)
  refine Hb.take (v := .bool false) 2 7 rfl ?_ (fun w' hw' => by go_simp; first | done | rfl | omega | exact wrap_in (by omega) (by omega) | exact Int.tmod_eq_emod_of_nonneg (by omega) | exact Int.tdiv_eq_ediv_of_nonneg (by omega) | (simp; omega))
  refine Hb.take (v := .bool false) 3 8 rfl ?_ (fun _ _ => rfl)
  refine Hb.take (v := .pointer (some ⟨w.heap.size, 0, none⟩)) 4 9 rfl ?_ (fun w' hw' => by go_simp; first | done | rfl | omega | exact wrap_in (by omega) (by omega) | exact Int.tmod_eq_emod_of_nonneg (by omega) | exact Int.tdiv_eq_ediv_of_nonneg (by omega) | (simp; omega))
  refine Hb.take (v := .int .i64 fr) 5 10 rfl ?_ (fun w' hw' => by have cc := (K3.out.below hw' L3.out).cell (i := 0) rfl; go_simp)
  refine Hb.take (v := .pointer (some ⟨g, 0, none⟩)) 6 11 rfl ?_ (fun _ _ => rfl)
  refine Hb.take (v := .pointer (some ⟨g, 0, none⟩)) 7 12 rfl ?_ (fun w' hw' => by go_simp; first | done | rfl | omega | exact wrap_in (by omega) (by omega) | exact Int.tmod_eq_emod_of_nonneg (by omega) | exact Int.tdiv_eq_ediv_of_nonneg (by omega) | (simp; omega))
  refine Hb.take (v := .pointer (some ⟨g, 1, none⟩)) 8 13 rfl ?_ (fun w' hw' => by go_simp; first | done | rfl | omega | exact wrap_in (by omega) (by omega) | exact Int.tmod_eq_emod_of_nonneg (by omega) | exact Int.tdiv_eq_ediv_of_nonneg (by omega) | (simp; omega))
  refine Hb.take (v := .int .i64 n) 9 14 rfl ?_ (fun w' hw' => by have cc := (hw'.cell (p := ⟨g, 1, none⟩) LG.out).trans Q1.out; go_simp)
  refine Hb.take (v := .bool false) 10 15 rfl ?_ (fun w' hw' => by go_simp; first | done | rfl | omega | exact wrap_in (by omega) (by omega) | exact Int.tmod_eq_emod_of_nonneg (by omega) | exact Int.tdiv_eq_ediv_of_nonneg (by omega) | (simp; omega))
  refine Hb.take (v := .bool false) 11 16 rfl ?_ (fun _ _ => rfl)
  refine Hb.take (v := .bool false) 12 17 rfl ?_ (fun _ _ => rfl)
  refine Hb.take (v := .pointer (some ⟨g, 0, none⟩)) 13 18 rfl ?_ (fun _ _ => rfl)
  refine Hb.take (v := .pointer (some ⟨w.heap.size, 0, none⟩)) 15 20 rfl ?_ (fun w' hw' => by go_simp; first | done | rfl | omega | exact wrap_in (by omega) (by omega) | exact Int.tmod_eq_emod_of_nonneg (by omega) | exact Int.tdiv_eq_ediv_of_nonneg (by omega) | (simp; omega))
  refine Hb.take (v := .int .i64 fr) 16 21 rfl ?_ (fun w' hw' => by have cc := (K3.out.below hw' L3.out).cell (i := 0) rfl; go_simp)
  refine Hb.call (f := 17) (args := #[.pointer (some ⟨g, 0, none⟩)]) 14 19 rfl ?_ (run_callf Try.func17 (by kernel_rfl) (by kernel_rfl) (by simp only [List.map_toArray, List.map_cons, List.map_nil]; rfl))
  refine (rvTeam_c _ g F view n L RS.out H1.out HL.out).mono ?_
  rw [TS.out]
  rintro e w' ⟨rfl, rfl⟩
  refine Hb.back (Below.refl _ _) (Nat.le_refl _) ?_
  refine Hb.call (f := 32) (args := #[.int .i64 (t : Int), .int .i64 fr]) 17 22 rfl ?_ (run_callf Try.func32 (by kernel_rfl) (by kernel_rfl) (by simp only [List.map_toArray, List.map_cons, List.map_nil]; rfl))
  refine (rtHas_c _ t fr LT.out).mono ?_
  rw [HH.out]
  rintro e w2 ⟨rfl, b2⟩
  have K3 := Lib.hid (K3.out.below b2 L3.out)
  have Q0 := Lib.hid ((b2.cell (p := ⟨g, 0, none⟩) LG.out).trans Q0.out)
  have Q1 := Lib.hid ((b2.cell (p := ⟨g, 1, none⟩) LG.out).trans Q1.out)
  have RS := Lib.hid (RS.out.past b2)
  have RE := Lib.hid (RE.out.past b2)
  have BT := Lib.hid (BT.out.trans (b2.mono BT.out.size))
  have BD := Lib.hid (show Below w1.drew.heap.size w1.drew w2 from b2)
  refine Hb.back b2 (Nat.le_refl _) ?_
  refine Hb.take (v := .bool true) 18 23 rfl ?_ (fun _ _ => rfl)
  refine Hb.take (v := .bool true) 19 24 rfl ?_ (fun _ _ => rfl)
  refine Hb.pass 20 25 rfl ?_
  refine Hb.pass 21 26 rfl ?_
  refine Hb.pass 22 27 rfl ?_
  refine Hb.take (v := .bool true) 23 28 rfl ?_ (fun _ _ => rfl)
  refine Hb.take (v := .bool true) 24 29 rfl ?_ (fun _ _ => rfl)
  refine Hb.pass 25 30 rfl ?_
  refine Hb.pass 26 31 rfl ?_
  refine Hb.pass 27 32 rfl ?_
  refine Hb.pass 28 33 rfl ?_
  refine Hb.pass 29 34 rfl ?_
  refine Hb.pass 30 35 rfl ?_
  refine Hb.pass 31 36 rfl ?_
  refine Hb.take (v := .bool true) 32 37 rfl ?_ (fun _ _ => rfl)
  refine Hb.take (v := .bool true) 33 38 rfl ?_ (fun _ _ => rfl)
  refine Hb.pass 34 39 rfl ?_
  refine Hb.pass 35 40 rfl ?_
  refine Hb.pass 36 41 rfl ?_
  refine Hb.pass 37 42 rfl ?_
  refine Hb.pass 38 43 rfl ?_
  refine Hb.pass 39 44 rfl ?_
  refine Hb.pass 40 45 rfl ?_
  refine Hb.pass 41 46 rfl ?_
  refine Hb.take (v := .bool true) 42 47 rfl ?_ (fun _ _ => rfl)
  refine Hb.take (v := .bool true) 43 48 rfl ?_ (fun _ _ => rfl)
  refine Hb.pass 44 49 rfl ?_
  refine Hb.pass 45 50 rfl ?_
  refine Hb.pass 46 51 rfl ?_
  refine Hb.take (v := .bool true) 47 52 rfl ?_ (fun _ _ => rfl)
  refine Hb.take (v := .bool true) 48 53 rfl ?_ (fun _ _ => rfl)
  refine Hb.pass 49 54 rfl ?_
  refine Hb.pass 50 55 rfl ?_
  refine Hb.pass 51 56 rfl ?_
  refine Hb.pass 52 57 rfl ?_
  refine Hb.pass 53 58 rfl ?_
  refine Hb.pass 54 59 rfl ?_
  refine Hb.take (v := .bool true) 55 60 rfl ?_ (fun _ _ => rfl)
  refine Hb.done ?_
-- END
  have FIN := BT.out
  go_wp2_with fail
  go_ret
  exact ⟨rfl, FIN⟩
end Go.Proofs.Ytheeigbljjcbpaa
