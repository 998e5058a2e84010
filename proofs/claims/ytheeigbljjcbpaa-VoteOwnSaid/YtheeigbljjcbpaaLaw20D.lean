/- The walk of VoteOwn. -/
import Derived.Test.YtheeigbljjcbpaaVoteK
import Derived.Test.YtheeigbljjcbpaaVoteL
import Derived.Test.YtheeigbljjcbpaaLogM
import Derived.Test.YtheeigbljjcbpaaEntR
namespace Go.Proofs.Ytheeigbljjcbpaa
open Go.RowKit PVote

theorem vn93 : VN 9 3 := by unfold VN; omega
def wS1 (L : List Ent) : List (Option Vt) := [some ⟨1, 0, L, 0⟩, none, none, none, none, none, none]
def wS2 (L : List Ent) : List (Option Vt) := [some ⟨1, 0, L, 0⟩, some ⟨2, 0, [], 0⟩, none, none, none, none, none]
theorem own_ok1 {L : List Ent} (h : isLog L = true) : ok 9 3 none7 ⟨1, 0, L, 0⟩ = true := by
  unfold ok good
  rw [h, show PTeam.has (tm none7) 1 = false by decide]
  have : decide ((0 : Int) ≤ 0 ∧ (0 : Int) ≤ (L.length : Int)) = true := decide_eq_true (by omega)
  show (decide _ && decide _ && true && decide ((0 : Int) ≤ 0 ∧ (0 : Int) ≤ (L.length : Int)) && !false) = true
  rw [this]; rfl
theorem own_add1 {L : List Ent} (h : isLog L = true) : add 9 3 none7 ⟨1, 0, L, 0⟩ = wS1 L := by unfold add; rw [own_ok1 h]; rfl
theorem own_tm1 (L : List Ent) : tm (wS1 L) = 1 := rfl
theorem own_ok2 (L : List Ent) : ok 9 3 (wS1 L) ⟨2, 0, [], 0⟩ = true := by unfold ok; rw [own_tm1]; decide
theorem own_add2 (L : List Ent) : add 9 3 (wS1 L) ⟨2, 0, [], 0⟩ = wS2 L := by unfold add; rw [own_ok2]; rfl
theorem own_most (L : List Ent) : PTeam.most (tm (wS2 L)) 3 = true := by rw [show tm (wS2 L) = 3 from rfl]; decide
theorem own_best (L : List Ent) : best 3 (wS2 L) = ⟨1, 0, L, 0⟩ := by
  unfold best
  rw [own_most, if_pos rfl]
  have e : run (got (wS2 L)) = (⟨1, 0, L, 0⟩, 0) := by
    show (pickB (pickB zero ⟨1, 0, L, 0⟩) ⟨2, 0, [], 0⟩, max (max (0 : Int) 0) 0) = _
    have e1 : pickB zero ⟨1, 0, L, 0⟩ = ⟨1, 0, L, 0⟩ := if_pos (Or.inl rfl)
    have e2 : better ⟨2, 0, [], 0⟩ ⟨1, 0, L, 0⟩ = false := by unfold better; exact decide_eq_false (by simp)
    rw [e1]
    unfold pickB
    rw [e2, if_neg (by simp)]; rfl
  rw [e]
  unfold cutc
  have : min (0 : Int) (L.length : Int) = 0 := by omega
  simp only [this]
theorem log_isLog (es : List Ent) : isLog (PLog.log es) = true := by unfold isLog; rw [PLog.log_of_ok (PLog.log_ok es)]; simp

set_option maxHeartbeats 8000000 in
set_option maxRecDepth 100000 in
theorem VoteOwn_w (w : World) (A : Option Addr) (c n : Nat) (z : List Ent) (R : Rd w w.heap.size A c 7 n (els z)) (ok0 : ∀ e ∈ z, EntOk e) :
    Calls Try.prog 5 #[.slice A n c] w fun e w' => e = .returned (.bool true) ∧ Below w.heap.size w w' := by
  have HR := Lib.hid R
  have HOK := Lib.hid ok0
  clear R ok0
  go_enter Try.func5, Try.ntmps5
  go_wp2_with fail
  refine (begunV_c w).mono ?_
  rintro e w1 ⟨rfl, b1⟩
  have B1 := Lib.hid b1
  have R1 := Lib.hid (HR.out.below b1).tight
  clear b1 HR
  go_wp2_with fail
  refine (lEntries_c w1 A c n z 8 R1.out HOK.out (by omega) (by omega)).mono ?_
  rintro e w2 ⟨A2, c2, es, rfl, -, o2, -, b2⟩
  have B2 := Lib.hid (B1.out.trans (b2.mono B1.out.size))
  have R2 := Lib.hid (Rd.of_own o2)
  clear b2 o2 B1 R1
  go_wp2_with fail
  refine (rLog_c w2 _ A2 c2 es.length es R2.out).mono ?_
  rintro e w3 ⟨A3, c3, rfl, o3, b3⟩
  have B3 := Lib.hid (B2.out.trans (b3.mono B2.out.size))
  have OW := Lib.hid (Ow.of_own o3)
  have ISL := Lib.hid (log_isLog es)
  have L60 := Lib.hid (PLog.log_len es)
  clear b3 o3 B2 R2
  generalize PLog.log es = L at *
  have RW := Lib.hid OW.out.rd
  go_wp2_with ((with_reducible show wpList _ _ _ ((⟨some 20, Op.call _, _, _, _, _⟩ : Oper) :: _) _ _); go_must (refine wpList_app2 rfl (.const (.slice none 0 0)) (.tmp 19) 30 rfl w3.heap.size 52 _ 7 64 Try.underlying30 ent_info rfl (by omega) none 0 0 [] rfl (Ow.nil _ _ _ _) _ _ c3 L.length (els L) rfl RW.out (els_one _) (by have := L60.out; unfold maxLen; omega) (by have := L60.out; omega) (Nat.le_refl _) ?_))
  intro A4 c4 w4 o4 g4 h4
  clear h4
  have b4 : Below w3.heap.size w3 w4 := (Below.refl _ _).grown g4 (Nat.le_refl _) (fun q hq => by cases hq)
  have B4 := Lib.hid (B3.out.trans (b4.mono B3.out.size))
  have OO := Lib.hid (show Ow w4 w3.heap.size 52 7 A4 L.length c4 (els L) by simpa using o4)
  have AP := Lib.hid (show bk A3 ≠ bk A4 ∨ bk A4 = none from by
    cases h : bk A4 with
    | none => exact .inr rfl
    | some q =>
      refine .inl (fun e => ?_)
      have h1 := OW.out.hi q e
      have h2 := OO.out.low q h
      omega)
  have OW := Lib.hid (OW.out.past b4)
  have S3 := Lib.hid B3.out.size
  clear b4 o4 g4 B3 RW
  go_wp2_with fail
  refine (vnew_yes w4 9 3 vn93).mono ?_
  rintro e w5 ⟨rfl, h5, b5⟩
  have V5 := Lib.hid (Sv.new B4.out vn93 h5 b5)
  have OF := Lib.hid (show ∀ q, bk A4 = some q → q ∉ [w4.heap.size] from fun q hq hm => by have := OO.out.hi q hq; rw [List.mem_singleton.1 hm] at this; omega)
  have OHI := Lib.hid (show ∀ q, bk A4 = some q → q < w4.heap.size from OO.out.hi)
  have OW5 := Lib.hid (OW.out.past b5)
  have OO5 := Lib.hid (OO.out.past b5)
  have GLT := Lib.hid b5.size
  clear h5 b5 B4 OW OO
  generalize hg : w4.heap.size = g at *
  have R5 := Lib.hid OO5.out.rd
  have HA := Lib.hid (V5.out.add ⟨1, 0, L, 0⟩ A4 c4 R5.out)
  go_wp2_with fail
  refine (show Calls _ _ #[_, vv ⟨1, 0, L, 0⟩ A4 c4] w5 _ from HA.out).mono ?_
  rw [own_ok1 ISL.out, own_add1 ISL.out]
  rintro e w6 ⟨rfl, F6, v6, t6, f6⟩
  have V6 := Lib.hid v6
  have kG : ∀ (e : TypeId) (A : Option Addr) (base k n c : Nat) (xs : List Value), e ≠ 63 → Ow w5 base e k A n c xs → Ow w6 base e k A n c xs := fun e A base k n c xs he hO => hO.touch t6 (fun s hs => by
    obtain ⟨ys, hB⟩ := V5.out.vs.blk
    rw [List.mem_singleton.1 hs]; exact hO.ne hB he)
  have OW6 := Lib.hid (kG _ _ _ _ _ _ _ (by decide) OW5.out)
  have OO6 := Lib.hid (kG _ _ _ _ _ _ _ (by decide) OO5.out)
  have OF6 := Lib.hid (show ∀ q, bk A4 = some q → q ∉ F6 from fun q hq hm => by
    rcases f6 q hm with h | h
    · exact OF.out q hq h
    · have h1 := OHI.out q hq
      have h2 := GLT.out
      omega)
  have LT6 := Lib.hid (show ∀ q, bk A4 = some q → q < w6.heap.size from OO6.out.hi)
  clear v6 t6 f6 kG HA R5 OW5 OO5 V5 OF
  have HA := Lib.hid (V6.out.add ⟨2, 0, [], 0⟩ none 0 (Rd.nil _ _ _))
  go_wp2_with fail
  refine (show Calls _ _ #[_, vv ⟨2, 0, [], 0⟩ none 0] w6 _ from HA.out).mono ?_
  rw [own_ok2, own_add2]
  rintro e w7 ⟨rfl, F7, v7, t7, f7⟩
  have V7 := Lib.hid v7
  have kG : ∀ (e : TypeId) (A : Option Addr) (base k n c : Nat) (xs : List Value), e ≠ 63 → Ow w6 base e k A n c xs → Ow w7 base e k A n c xs := fun e A base k n c xs he hO => hO.touch t7 (fun s hs => by
    obtain ⟨ys, hB⟩ := V6.out.vs.blk
    rw [List.mem_singleton.1 hs]; exact hO.ne hB he)
  have OW7 := Lib.hid (kG _ _ _ _ _ _ _ (by decide) OW6.out)
  have OO7 := Lib.hid (kG _ _ _ _ _ _ _ (by decide) OO6.out)
  have OF7 := Lib.hid (show ∀ q ∈ bl A4, q ∉ F7 from fun q hq hm => by
    rcases f7 q hm with h | h
    · exact OF6.out q (mem_bl.1 hq) h
    · have h1 := LT6.out q (mem_bl.1 hq)
      omega)
  have OB7 := Lib.hid (show ∀ q ∈ bl A4, w.heap.size ≤ q from fun q hq => Nat.le_trans S3.out (OO7.out.low q (mem_bl.1 hq)))
  have OA7 := Lib.hid (show ∀ s ∈ bl A4, bk A3 ≠ some s from fun s hs e => by
    rcases AP.out with h | h
    · exact h (e.trans (mem_bl.1 hs).symm)
    · rw [mem_bl.1 hs] at h; cases h)
  clear v7 t7 f7 kG HA OW6 OO6 V6 OF6 LT6 AP OHI GLT S3
  have L60' : (L.length : Int) ≤ 60 := by have := L60.out; omega
  go_wp2_with fail
  go_loopw [7] (fun s7 wr => ∃ (i : Nat) (xs : List Value), s7 = .int .i64 i ∧ i ≤ L.length ∧ Hid (Ow wr w3.heap.size 52 7 A4 L.length c4 xs) ∧ Hid (Touch (bl A4) w7 wr)) (fun s7 _ => L.length - (intOf s7).toNat)
  case atStart => exact ⟨0, els L, rfl, by omega, OO7, Lib.hid (Touch.refl _ _)⟩
  case round =>
    clear OO7
    obtain ⟨i, xs, rfl, hi, HO, HT⟩ := hrel
    by_cases hin : i < L.length
    · have jn : (i : Int) < (L.length : Int) := by omega
      obtain ⟨go, rfl, -, -⟩ := HO.out.some (by omega)
      have hx : i * 7 + 2 < xs.length := by rw [HO.out.1]; omega
      obtain ⟨u, hu⟩ : ∃ u, xs[i * 7 + 2]? = some u := ⟨_, List.getElem?_eq_getElem hx⟩
      obtain ⟨q1, q2⟩ := HO.out.cell rfl hu
      have O2 := Lib.hid (HO.out.set rfl hx (.int .i64 77))
      have T2 := Lib.hid (HT.out.cell (g := go) (by simp [bl, bk]) (i * 7 + 2) (.int .i64 77))
      clear hx hu HO HT
      go_wp2_with fail
      go_roundw
      case rel => exact ⟨i + 1, _, by go_num, by omega, O2, T2⟩
      case measure => simp [intOf]; omega
    · obtain rfl : i = L.length := by omega
      have V8 := Lib.hid (V7.out.far HT.out OB7.out OF7.out)
      have OW8 := Lib.hid (OW7.out.touch HT.out OA7.out)
      clear HO HT V7 OW7
      go_wp2_with fail
      refine V8.out.best.mono ?_
      rintro e w8 ⟨CA, CC, he, co, b8⟩
      rw [own_best, own_most] at he
      rw [own_best] at co
      have he : e = .returned (.tuple #[.agg #[.int .i64 1, .int .i64 0, .slice CA L.length CC, .int .i64 0], .bool true]) := he
      subst he
      have V9 := Lib.hid ((V8.out.past b8).alloc (.cells #[.int .i64 1, .int .i64 0, .slice CA L.length CC, .int .i64 0] 32))
      have OW9 := Lib.hid ((OW8.out.past b8).past (Below.refl _ _ |>.alloc (Nat.le_refl _) (.cells #[.int .i64 1, .int .i64 0, .slice CA L.length CC, .int .i64 0] 32)))
      have OC9 := Lib.hid (co.past (Below.refl _ _ |>.alloc (Nat.le_refl _) (.cells #[.int .i64 1, .int .i64 0, .slice CA L.length CC, .int .i64 0] 32)))
      have K9 := Lib.hid (Blk.new w8 #[.int .i64 1, .int .i64 0, .slice CA L.length CC, .int .i64 0] 32)
      have CF := Lib.hid (show ∀ q ∈ bl CA, q ∉ F7 from fun q hq hm => by
        have h1 := V8.out.vs.hi q hm
        have h2 := co.low q (mem_bl.1 hq)
        omega)
      have CB := Lib.hid (show ∀ q ∈ bl CA, w.heap.size ≤ q from fun q hq => Nat.le_trans V8.out.bel.size (co.low q (mem_bl.1 hq)))
      have CW := Lib.hid (show ∀ s ∈ bl CA, bk A3 ≠ some s from fun s hs e => by
        have h1 := OW8.out.hi s e
        have h2 := co.low s (mem_bl.1 hs)
        omega)
      clear co b8 V8 OW8
      go_wp2_with fail
      generalize (w8.alloc (.cells #[.int .i64 1, .int .i64 0, .slice CA L.length CC, .int .i64 0] 32)) = w9 at *
      generalize w8.heap.size = ga at *
      have CK := Lib.hid (show ga ∉ bl CA from fun hm => OC9.out.ne K9.out (by decide) (mem_bl.1 hm))
      go_loopw [10] (fun s10 wr => ∃ (i : Nat) (xs : List Value), s10 = .int .i64 i ∧ i ≤ L.length ∧ Hid (Ow wr 0 52 7 CA L.length CC xs) ∧ Hid (Touch (bl CA) w9 wr)) (fun s10 _ => L.length - (intOf s10).toNat)
      case atStart => exact ⟨0, els L, rfl, by omega, Lib.hid (OC9.out.down (Nat.zero_le _)), Lib.hid (Touch.refl _ _)⟩
      case round =>
        clear OC9
        obtain ⟨i, xs, rfl, hi, HO, HT⟩ := hrel
        have KT := Lib.hid (K9.out.touch HT.out CK.out)
        have k2 := KT.out.cell (i := 2) rfl
        by_cases hin : i < L.length
        · have jn : (i : Int) < (L.length : Int) := by omega
          obtain ⟨go, rfl, -, -⟩ := HO.out.some (by omega)
          have hx : i * 7 + 2 < xs.length := by rw [HO.out.1]; omega
          obtain ⟨u, hu⟩ : ∃ u, xs[i * 7 + 2]? = some u := ⟨_, List.getElem?_eq_getElem hx⟩
          obtain ⟨q1, q2⟩ := HO.out.cell rfl hu
          have O2 := Lib.hid (HO.out.set rfl hx (.int .i64 78))
          have T2 := Lib.hid (HT.out.cell (g := go) (by simp [bl, bk]) (i * 7 + 2) (.int .i64 78))
          clear hx hu HO HT KT
          go_wp2_with fail
          go_roundw
          case rel => exact ⟨i + 1, _, by go_num, by omega, O2, T2⟩
          case measure => simp [intOf]; omega
        · obtain rfl : i = L.length := by omega
          have V10 := Lib.hid (V9.out.far HT.out CB.out CF.out)
          have OW10 := Lib.hid (OW9.out.touch HT.out CW.out)
          clear HO HT V9 OW9 KT
          go_wp2_with fail
          refine V10.out.best.mono ?_
          rintro e w11 ⟨DA, DC, he, co, b11⟩
          rw [own_best, own_most] at he
          rw [own_best] at co
          have he : e = .returned (.tuple #[.agg #[.int .i64 1, .int .i64 0, .slice DA L.length DC, .int .i64 0], .bool true]) := he
          subst he
          have B12 := Lib.hid (((V10.out.past b11).alloc (.cells #[.int .i64 1, .int .i64 0, .slice DA L.length DC, .int .i64 0] 32)).bel)
          have OW12 := Lib.hid ((OW10.out.past b11).past (Below.refl _ _ |>.alloc (Nat.le_refl _) (.cells #[.int .i64 1, .int .i64 0, .slice DA L.length DC, .int .i64 0] 32))).rd
          have OD12 := Lib.hid (co.past (Below.refl _ _ |>.alloc (Nat.le_refl _) (.cells #[.int .i64 1, .int .i64 0, .slice DA L.length DC, .int .i64 0] 32))).rd
          clear co b11 V10 OW10
          go_wp2_with fail
          refine (EqAll_c _ DA A3 DC L.length c3 L.length L L OD12.out OW12.out).mono ?_
          rw [PLog.eqL_self]
          rintro e w13 ⟨rfl, b13⟩
          go_wp2_with fail
          go_ret
          exact ⟨rfl, B12.out.trans (b13.mono B12.out.size)⟩
end Go.Proofs.Ytheeigbljjcbpaa
