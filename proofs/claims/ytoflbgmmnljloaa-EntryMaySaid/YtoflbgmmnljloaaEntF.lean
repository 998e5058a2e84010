/- Contracts of entryOf, decodeOne. -/
import Derived.Test.YtoflbgmmnljloaaEntE
import Derived.Test.YtoflbgmmnljloaaNumD
namespace Go.Proofs.Ytoflbgmmnljloaa
open Go.RowKit

theorem results_cell_tmp2 {fn : Func} {p u v : Tmp} {ty : TypeId} (h : fn.results = #[.cell p ty, .tmp u, .tmp v]) (tmps : Array Value) (P : Program) (w : World) :
    (results fn tmps).run P w =
      ((asAddr (tmps.getD p undef)).run P w).andThen fun a w₁ => ((loadVar ty a).run P w₁).andThen fun x w₂ => .ok (.tuple #[x, tmps.getD u undef, tmps.getD v undef]) w₂ := by
  simp only [results, h]
  simp [Sem.run_bind, Result.andThen]
theorem results_row_tmp2 {P : Program} {fn : Func} {p u q : Tmp} {ty : TypeId} (h : fn.results = #[.cell p ty, .tmp u, .tmp q]) (tmps : Array Value) (w : World) (g : Nat) (t : TypeId) (cs : Array Value) (fr : Nat × Nat) (d : TypeDesc)
    {v z : Value} (hp : tmps.getD p undef = .pointer (some ⟨g, 0, none⟩)) (hv : tmps.getD u undef = v) (hz : tmps.getD q undef = z) (hg : w.heap[g]? = some (.cells cs t fr))
    (hu : P.underlying ty = some d) (hd : (match d with | .struct _ | .array _ _ => true | _ => false) = true) (hi : (P.info? ty).map (·.size) = some cs.size) :
    (results fn tmps).run P w = .ok (.tuple #[.agg cs, v, z]) w := by
  rw [results_cell_tmp2 h, hp, hv, hz]
  simp [asAddr, run_loadVar_row w g t ty cs fr d hg hu hd hi, Result.andThen]

set_option maxRecDepth 100000 in
theorem entryOf_c (w : World) (x0 x1 x2 x3 x4 x5 : Int) (d : ByteArray) : Calls Try.prog 35 #[.agg #[.int .i64 x0, .int .i64 x1, .int .i64 x2, .int .i64 x3, .int .i64 x4, .int .i64 x5], .string d] w fun x w' => x = .returned (ev ⟨x0, x1, x2, x3, x4, x5, d⟩) ∧ Below w.heap.size w w' := by
  go_enter Try.func35, Try.ntmps35
  go_wp2_with fail
  have K := Blk.newEnt (w.alloc (.cells #[.int .i64 x0, .int .i64 x1, .int .i64 x2, .int .i64 x3, .int .i64 x4, .int .i64 x5] 50)) 23 ⟨x0, x1, x2, x3, x4, x5, d⟩
  rw [show (w.alloc (.cells #[.int .i64 x0, .int .i64 x1, .int .i64 x2, .int .i64 x3, .int .i64 x4, .int .i64 x5] 50)).heap.size = w.heap.size + 1 by simp] at K
  refine bodyPost_ret (v := ev ⟨x0, x1, x2, x3, x4, x5, d⟩) (results_cell_row rfl _ _ (w.heap.size + 1) _ _ _ _ rfl K Try.underlying23 rfl (by kernel_rfl)) rfl ⟨rfl, ((Below.refl _ _).alloc (Nat.le_refl _) _).alloc (by simp) _⟩

/-- No entry: all zero. -/
def zeroE : Ent := ⟨0, 0, 0, 0, 0, 0, ⟨#[]⟩⟩
/-- An entry, how many bytes, was there one, as Go hands them back. -/
def dtup : Option (Ent × Nat) → Value
  | some (e, k) => .tuple #[ev e, .int .i64 k, .bool true]
  | none => .tuple #[ev zeroE, .int .i64 0, .bool false]

theorem bs_tail {l : List Int} {n p : Nat} (h : l.length = n) : ((bs l).drop p).take (n - p) = bs (l.drop p) := by
  rw [← bs_drop, List.take_of_length_le (by rw [bs_length, List.length_drop]; omega)]
/-- The numbers that were read, then zeros. -/
def six (xs : List Int) : List Value := (xs ++ List.replicate (6 - xs.length) 0).map (Value.int .i64)
theorem six_set (xs : List Int) (x : Int) (h : xs.length < 6) : (six xs).set xs.length (.int .i64 x) = six (xs ++ [x]) := by
  unfold six
  rw [← List.map_set, List.set_append_right _ _ (by omega), Nat.sub_self]
  obtain ⟨k, hk⟩ : ∃ k, 6 - xs.length = k + 1 := ⟨5 - xs.length, by omega⟩
  have hk2 : 6 - (xs ++ [x]).length = k := by simp; omega
  rw [hk, hk2, List.replicate_succ, List.set_cons_zero]
  simp
theorem six_at (xs : List Int) (h : xs.length < 6) : (six xs)[xs.length]? = some (.int .i64 0) := by
  unfold six
  rw [List.getElem?_map, List.getElem?_append_right (by omega), Nat.sub_self, List.getElem?_replicate, if_pos (by omega)]; rfl
theorem six_len (xs : List Int) (h : xs.length ≤ 6) : (six xs).length = 6 := by simp [six]; omega

/-- The loop's invariant: xs were read of the first p bytes. -/
def N6 (l : List Int) (xs : List Int) (p : Nat) : Prop := PEnt.rdN 6 l = (PEnt.rdN (6 - xs.length) (l.drop p)).map fun q => (xs ++ q.1, p + q.2)
theorem N6.start (l : List Int) : N6 l [] 0 := by
  unfold N6
  simp
theorem N6.none {l xs : List Int} {p : Nat} (h : N6 l xs p) (hx : xs.length < 6) (he : (PNum.getB 0 0 (l.drop p)).2.2 ≠ 0) : PEnt.rdE l = none := by
  obtain ⟨k, hk⟩ : ∃ k, 6 - xs.length = k + 1 := ⟨5 - xs.length, by omega⟩
  unfold N6 at h
  rw [hk] at h
  unfold PEnt.rdE
  generalize PEnt.rdN 6 l = Q at *
  simp only [PEnt.rdN] at h
  rw [if_neg he] at h
  rw [h]; rfl
theorem N6.next {l xs : List Int} {p : Nat} {x : Int} {k : Nat} (h : N6 l xs p) (hx : xs.length < 6) (he : PNum.getB 0 0 (l.drop p) = (x, (k : Int), 0)) : N6 l (xs ++ [x]) (p + k) := by
  obtain ⟨j, hj⟩ : ∃ j, 6 - xs.length = j + 1 := ⟨5 - xs.length, by omega⟩
  have hj2 : 6 - (xs ++ [x]).length = j := by simp; omega
  unfold N6 at h ⊢
  rw [hj] at h
  rw [hj2]
  generalize PEnt.rdN 6 l = Q at *
  simp only [PEnt.rdN] at h
  rw [he, if_pos rfl] at h
  simp only [Int.toNat_natCast, List.drop_drop] at h
  rw [h]
  cases PEnt.rdN j (l.drop (p + k)) with
  | none => rfl
  | some q => simp [Nat.add_assoc]
theorem N6.done {l xs : List Int} {p : Nat} (h : N6 l xs p) (hx : xs.length = 6) : PEnt.rdE l = PEnt.rdT l xs p := by
  unfold N6 at h
  rw [hx] at h
  unfold PEnt.rdE
  generalize PEnt.rdN 6 l = Q at *
  simp only [Nat.sub_self, PEnt.rdN] at h
  rw [h]; simp
theorem list6' {xs : List Int} (h : xs.length = 6) : ∃ a b c d e f, xs = [a, b, c, d, e, f] := by
  match xs, h with
  | [a, b, c, d, e, f], _ => exact ⟨a, b, c, d, e, f, rfl⟩

set_option maxHeartbeats 4000000 in
set_option maxRecDepth 100000 in
theorem decodeOne_c (w : World) (B : Nat) (A : Option Addr) (c n : Nat) (l : List Int) (h : Rd w B A c 1 n (bs l)) (hb : isB l) (hn : n ≤ 1000000) :
    Calls Try.prog 29 #[.slice A n c] w fun x w' => x = .returned (dtup (PEnt.rdE l)) ∧ Below w.heap.size w w' := by
  have R0 := Lib.hid h.tight
  have HLn := Lib.hid h.blen
  have HB := Lib.hid hb
  clear h hb
  go_enter Try.func29, Try.ntmps29
  go_wp2_with fail
  have bel0 := ((Below.refl w.heap.size w).alloc (Nat.le_refl _) (.cells #[.int .i64 0, .int .i64 0, .int .i64 0, .int .i64 0, .int .i64 0, .int .i64 0, .string ⟨#[]⟩] 23)).alloc (by simp) (.cells #[.int .i64 0, .int .i64 0, .int .i64 0, .int .i64 0, .int .i64 0, .int .i64 0] 50)
  have K0 := (Blk.newEnt w 23 zeroE).alloc (.cells #[.int .i64 0, .int .i64 0, .int .i64 0, .int .i64 0, .int .i64 0, .int .i64 0] 50)
  have N0 := Blk.new (w.alloc (.cells #[.int .i64 0, .int .i64 0, .int .i64 0, .int .i64 0, .int .i64 0, .int .i64 0, .string ⟨#[]⟩] 23)) #[.int .i64 0, .int .i64 0, .int .i64 0, .int .i64 0, .int .i64 0, .int .i64 0] 50
  rw [show (w.alloc (.cells #[.int .i64 0, .int .i64 0, .int .i64 0, .int .i64 0, .int .i64 0, .int .i64 0, .string ⟨#[]⟩] 23)).heap.size = w.heap.size + 1 by simp] at N0
  have H0 : Hid (Below w.heap.size w _) := Lib.hid bel0
  have HK0 : Hid (Blk _ w.heap.size 23 (ecs zeroE)) := Lib.hid K0
  have HN0 : Hid (Blk _ (w.heap.size + 1) 50 (six [])) := Lib.hid N0
  clear bel0 K0 N0
  go_loopw [6, 7, 8, 9, 10, 15] (fun s6 _ _ _ _ s15 wr => ∃ (p : Nat) (xs : List Int), xs.length ≤ 6 ∧ p ≤ n ∧ s15 = .int .i64 xs.length ∧ s6 = .int .i64 p ∧ Hid (N6 l xs p) ∧
      Hid (Blk wr w.heap.size 23 (ecs zeroE)) ∧ Hid (Blk wr (w.heap.size + 1) 50 (six xs)) ∧ Hid (Below w.heap.size w wr))
    (fun _ _ _ _ _ s15 _ => 6 - (intOf s15).toNat)
  case atStart => exact ⟨0, [], by simp, by omega, rfl, rfl, Lib.hid (N6.start l), HK0, HN0, H0⟩
  case round =>
    clear H0 HK0 HN0
    obtain ⟨p, xs, hxl, hpn, rfl, rfl, HI, KE, KN, BL⟩ := hrel
    have RW := Lib.hid (R0.out.below BL.out)
    by_cases hlt : xs.length < 6
    · go_wp2_with (with_reducible show wpList _ _ _ ((⟨some 21, Op.slice 30 _ _ _ _, _, _, _, _⟩ : Oper) :: _) _ _
                   go_must (refine wpList_cut rfl 30 (.tmp 19) _ _ rfl 5 _ 1 1 Try.underlying30 byte_info _ A c n (bs l) rfl RW.out p n (.inr rfl) (.inl ⟨rfl, rfl⟩) (by omega) (by omega) ?_))
      intro A1 c1 hr1
      rw [bs_tail HLn.out] at hr1
      go_wp2_with fail
      refine (Get_c wr _ A1 c1 (n - p) (l.drop p) hr1 (HB.out.drop p)).mono ?_
      clear hr1
      obtain ⟨⟨x, k, er⟩, hg⟩ : ∃ r, PNum.getB 0 0 (l.drop p) = r := ⟨_, rfl⟩
      rw [hg]
      simp only [tup3]
      rintro e w1 ⟨rfl, rfl⟩
      by_cases h0 : er = 0
      · subst h0
        obtain ⟨_, g2, g3⟩ := PNum.getB_whole (HB.out.drop p) hg
        rw [List.length_drop, HLn.out] at g3
        obtain ⟨k, rfl⟩ := Int.eq_ofNat_of_zero_le (show 0 ≤ k by omega)
        have HI2 := Lib.hid (HI.out.next hlt hg)
        have HSet := Lib.hid (six_set xs x hlt)
        clear hg
        have q0 := KN.out.cell (six_at xs hlt)
        have q1 := KN.out.free xs.length
        have KN2 := Lib.hid (KN.out.set xs.length (.int .i64 x))
        have KE2 := Lib.hid (KE.out.far (grown_set wr (w.heap.size + 1) xs.length (.int .i64 x)) (by omega))
        have B2 := Lib.hid (BL.out.setCell (p := ⟨w.heap.size + 1, xs.length, none⟩) (Nat.le_succ _) (.int .i64 x))
        clear KN KE BL RW HI
        go_wp2_with fail
        go_roundw
        case rel => exact ⟨p + k, xs ++ [x], by simp; omega, by omega, by simp, by go_num, HI2, KE2, Lib.hid (by rw [← HSet.out]; exact KN2.out), B2⟩
        case measure => simp [intOf]; omega
      · have HF := Lib.hid (HI.out.none hlt (by rw [hg]; exact h0))
        have e0 : (er == 0) = false := by simpa using h0
        clear hg h0
        go_wp2_with ((with_reducible show wpList _ _ _ ((⟨none, Op.store 23 (.tmp 2) _, _, _, _, _⟩ : Oper) :: _) _ _); go_must (refine wpList_store_row rfl 23 (.tmp 2) (.tmp 28) rfl w.heap.size _ rfl rfl _ _ KE.out (by kernel_rfl) (by rfl) (by kernel_rfl) ?_))
        have K2 := KE.out.row #[.int .i64 0, .int .i64 0, .int .i64 0, .int .i64 0, .int .i64 0, .int .i64 0, .string ⟨#[]⟩]
        have B2 := grown_below (grown_row wr w.heap.size #[.int .i64 0, .int .i64 0, .int .i64 0, .int .i64 0, .int .i64 0, .int .i64 0, .string ⟨#[]⟩]) (Nat.le_refl _) BL.out.size
        refine bodyPost_ret (v := dtup none) (results_row_tmp2 rfl _ _ w.heap.size _ _ _ _ rfl rfl rfl K2 Try.underlying23 rfl (by kernel_rfl)) rfl ⟨by rw [HF.out], BL.out.trans B2⟩
    · have hx6 : xs.length = 6 := by omega
      have HD := Lib.hid (HI.out.done hx6)
      obtain ⟨x0, x1, x2, x3, x4, x5, rfl⟩ := list6' hx6
      have KN1 : Hid (Blk wr (w.heap.size + 1) 50 [.int .i64 x0, .int .i64 x1, .int .i64 x2, .int .i64 x3, .int .i64 x4, .int .i64 x5]) := Lib.hid KN.out
      have hl6 : ([x0, x1, x2, x3, x4, x5].length : Int) = 6 := rfl
      rw [hl6]
      clear hx6 hxl hlt HI KN hl6
      go_wp2_with (with_reducible show wpList _ _ _ ((⟨some 39, Op.slice 30 _ _ _ _, _, _, _, _⟩ : Oper) :: _) _ _
                   go_must (refine wpList_cut rfl 30 (.tmp 37) _ _ rfl 5 _ 1 1 Try.underlying30 byte_info _ A c n (bs l) rfl RW.out p n (.inr rfl) (.inl ⟨rfl, rfl⟩) (by omega) (by omega) ?_))
      intro A1 c1 hr1
      rw [bs_tail HLn.out] at hr1
      go_wp2_with fail
      refine (GetText_c wr _ A1 c1 (n - p) (l.drop p) hr1 (HB.out.drop p) (by omega)).mono ?_
      clear hr1
      obtain ⟨⟨s, k, er⟩, hg⟩ : ∃ r, PNum.getT (l.drop p) = r := ⟨_, rfl⟩
      rw [hg]
      simp only [tupT]
      rintro e w1 ⟨rfl, rfl⟩
      by_cases h0 : er = 0
      · subst h0
        obtain ⟨_, g2, g3, _⟩ := PNum.getT_whole (HB.out.drop p) hg
        rw [List.length_drop, HLn.out] at g3
        obtain ⟨k, rfl⟩ := Int.eq_ofNat_of_zero_le (show 0 ≤ k by omega)
        have HT := Lib.hid (show PEnt.rdE l = if PEnt.may ⟨x0, x1, x2, x3, x4, x5, strOfNums s⟩ = true then some (⟨x0, x1, x2, x3, x4, x5, strOfNums s⟩, p + k) else none by
          rw [HD.out]; unfold PEnt.rdT; rw [hg, if_pos rfl]; rfl)
        have q0 := KN1.out.cell (i := 0) rfl
        have q1 := KN1.out.cell (i := 1) rfl
        have q2 := KN1.out.cell (i := 2) rfl
        have q3 := KN1.out.cell (i := 3) rfl
        have q4 := KN1.out.cell (i := 4) rfl
        have q5 := KN1.out.cell (i := 5) rfl
        clear hg HD KN1 RW
        go_wp2_with fail
        clear q0 q1 q2 q3 q4 q5
        refine (entryOf_c wr x0 x1 x2 x3 x4 x5 (strOfNums s)).mono ?_
        rintro e w1 ⟨rfl, b1⟩
        have BL1 := Lib.hid (BL.out.trans (b1.mono BL.out.size))
        have KE1 := Lib.hid (KE.out.past b1)
        clear b1 BL KE
        simp only [ev]
        go_wp2_with fail
        have b1 := (Below.refl w1.heap.size w1).alloc (Nat.le_refl _) (.cells #[.int .i64 x0, .int .i64 x1, .int .i64 x2, .int .i64 x3, .int .i64 x4, .int .i64 x5, .string (strOfNums s)] 23)
        have KX := Blk.newEnt w1 23 ⟨x0, x1, x2, x3, x4, x5, strOfNums s⟩
        have KE3 := KE1.out.alloc (.cells #[.int .i64 x0, .int .i64 x1, .int .i64 x2, .int .i64 x3, .int .i64 x4, .int .i64 x5, .string (strOfNums s)] 23)
        generalize w1.alloc (.cells #[.int .i64 x0, .int .i64 x1, .int .i64 x2, .int .i64 x3, .int .i64 x4, .int .i64 x5, .string (strOfNums s)] 23) = w2 at *
        cases hy : PEnt.may ⟨x0, x1, x2, x3, x4, x5, strOfNums s⟩
        · have HR := Lib.hid (HT.out.trans (if_neg (by rw [hy]; simp)))
          refine (May_c w2 ⟨x0, x1, x2, x3, x4, x5, strOfNums s⟩).mono ?_
          rw [hy]
          rintro e w3 ⟨rfl, b3⟩
          have KE2 := Lib.hid (KE3.past b3)
          have B2 := Lib.hid ((BL1.out.trans (b1.mono BL1.out.size)).trans (b3.mono (Nat.le_trans BL1.out.size b1.size)))
          clear b1 b3 KX KE3 hy BL1 KE1 HT
          go_wp2_with ((with_reducible show wpList _ _ _ ((⟨none, Op.store 23 (.tmp 2) (.tmp 53), _, _, _, _⟩ : Oper) :: _) _ _); go_must (refine wpList_store_row rfl 23 (.tmp 2) (.tmp 53) rfl w.heap.size _ rfl rfl _ _ KE2.out (by kernel_rfl) (by rfl) (by kernel_rfl) ?_))
          have K2 := KE2.out.row #[.int .i64 0, .int .i64 0, .int .i64 0, .int .i64 0, .int .i64 0, .int .i64 0, .string ⟨#[]⟩]
          have B3 := grown_below (grown_row w3 w.heap.size #[.int .i64 0, .int .i64 0, .int .i64 0, .int .i64 0, .int .i64 0, .int .i64 0, .string ⟨#[]⟩]) (Nat.le_refl _) B2.out.size
          refine bodyPost_ret (v := dtup none) (results_row_tmp2 rfl _ _ w.heap.size _ _ _ _ rfl rfl rfl K2 Try.underlying23 rfl (by kernel_rfl)) rfl ⟨by rw [HR.out], B2.out.trans B3⟩
        · have HR := Lib.hid (HT.out.trans (if_pos hy))
          refine (May_c w2 ⟨x0, x1, x2, x3, x4, x5, strOfNums s⟩).mono ?_
          rw [hy]
          rintro e w3 ⟨rfl, b3⟩
          have KE2 := Lib.hid (KE3.past b3)
          have B2 := Lib.hid ((BL1.out.trans (b1.mono BL1.out.size)).trans (b3.mono (Nat.le_trans BL1.out.size b1.size)))
          obtain ⟨d0, d1, d2, d3, d4, d5, d6⟩ := (KX.past b3).ent
          clear b1 b3 KX KE3 hy BL1 KE1 HT
          go_wp2_with ((with_reducible show wpList _ _ _ ((⟨none, Op.store 23 (.tmp 2) (.tmp 54), _, _, _, _⟩ : Oper) :: _) _ _); go_must (refine wpList_store_row rfl 23 (.tmp 2) (.tmp 54) rfl w.heap.size _ rfl rfl _ _ KE2.out (by kernel_rfl) (by rfl) (by kernel_rfl) ?_))
          have K2 := KE2.out.row #[.int .i64 x0, .int .i64 x1, .int .i64 x2, .int .i64 x3, .int .i64 x4, .int .i64 x5, .string (strOfNums s)]
          have B3 := grown_below (grown_row w3 w.heap.size #[.int .i64 x0, .int .i64 x1, .int .i64 x2, .int .i64 x3, .int .i64 x4, .int .i64 x5, .string (strOfNums s)]) (Nat.le_refl _) B2.out.size
          have HP := Lib.hid (show (p : Int) + (k : Int) = ((p + k : Nat) : Int) by omega)
          refine bodyPost_ret (v := dtup (some (⟨x0, x1, x2, x3, x4, x5, strOfNums s⟩, p + k))) (results_row_tmp2 rfl _ _ w.heap.size _ _ _ _ rfl (by rw [← HP.out]; rfl) rfl K2 Try.underlying23 rfl (by kernel_rfl)) rfl ⟨by rw [HR.out], B2.out.trans B3⟩
      · have HF := Lib.hid (show PEnt.rdE l = none by
          rw [HD.out]; unfold PEnt.rdT; rw [hg, if_neg h0])
        have e0 : (er == 0) = false := by simpa using h0
        have KE2 := KE
        clear hg h0
        go_wp2_with ((with_reducible show wpList _ _ _ ((⟨none, Op.store 23 (.tmp 2) (.tmp 46), _, _, _, _⟩ : Oper) :: _) _ _); go_must (refine wpList_store_row rfl 23 (.tmp 2) (.tmp 46) rfl w.heap.size _ rfl rfl _ _ KE2.out (by kernel_rfl) (by rfl) (by kernel_rfl) ?_))
        have K2 := KE.out.row #[.int .i64 0, .int .i64 0, .int .i64 0, .int .i64 0, .int .i64 0, .int .i64 0, .string ⟨#[]⟩]
        have B2 := grown_below (grown_row wr w.heap.size #[.int .i64 0, .int .i64 0, .int .i64 0, .int .i64 0, .int .i64 0, .int .i64 0, .string ⟨#[]⟩]) (Nat.le_refl _) BL.out.size
        refine bodyPost_ret (v := dtup none) (results_row_tmp2 rfl _ _ w.heap.size _ _ _ _ rfl rfl rfl K2 Try.underlying23 rfl (by kernel_rfl)) rfl ⟨by rw [HF.out], BL.out.trans B2⟩
end Go.Proofs.Ytoflbgmmnljloaa
