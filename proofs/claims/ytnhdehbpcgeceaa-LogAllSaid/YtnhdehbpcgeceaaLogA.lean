/- Contracts of the library's IndexFunc, ContainsFunc, EqualFunc, Clone at entries; of Has's closure, of Front. -/
import Derived.Test.YtnhdehbpcgeceaaLog
import Derived.Test.YtnhdehbpcgeceaaEntC
import Derived.Laws.StructEq
import Derived.Shelf.Abstract
namespace Go.Proofs.Ytnhdehbpcgeceaa
open Go.RowKit

theorem any_take {l : List Ent} {p : Ent → Bool} {i : Nat} {e : Ent} (he : l[i]? = some e) (h : (l.take i).any p = false) (hp : p e = false) : (l.take (i + 1)).any p = false := by
  obtain ⟨hi, rfl⟩ := List.getElem?_eq_some_iff.1 he
  rw [← List.take_append_getElem hi, List.any_append, h]
  simp [hp]
theorem any_at {l : List Ent} {p : Ent → Bool} {i : Nat} {e : Ent} (he : l[i]? = some e) (hp : p e = true) : l.any p = true := by
  rw [List.any_eq_true]
  exact ⟨e, List.mem_of_getElem? he, hp⟩
theorem eqL_drop {l m : List Ent} {i : Nat} {a b : Ent} (h1 : l[i]? = some a) (h2 : m[i]? = some b) : PEnt.eqL (l.drop i) (m.drop i) = (PEnt.eqE a b && PEnt.eqL (l.drop (i + 1)) (m.drop (i + 1))) := eqL_step h1 h2

set_option maxHeartbeats 4000000 in
set_option maxRecDepth 100000 in
theorem indexE_c (w : World) (B : Nat) (A : Option Addr) (c n : Nat) (l : List Ent) (h : Rd w B A c 7 n (els l)) (G : FuncId) (cb : Array Value) (p : Ent → Bool) (eg : ∀ args w, (callFunc G args).run Try.prog w = .ok (.enter G args) w)
    (hG : ∀ W (x : Ent), Below w.heap.size w W → Calls Try.prog G (#[ev x] ++ cb) W fun e W' => e = .returned (.bool (p x)) ∧ Below W.heap.size W W') :
    Calls Try.prog 42 #[.slice A n c, .func (.func G) #[] cb] w fun e w' => ((∃ i : Nat, e = .returned (.int .i64 i) ∧ l.any p = true) ∨ e = .returned (.int .i64 (-1)) ∧ l.any p = false) ∧ Below w.heap.size w w' := by
  have HG := Lib.hid hG
  have R0 := Lib.hid h.tight
  have hcap := h.cap
  have hle := h.le
  have HL := Lib.hid h.elen
  have hn : n ≤ 9223372036854775807 := by unfold maxLen at hcap; omega
  clear hG h hcap hle
  go_enter Try.func42, Try.ntmps42
  go_wp2_with fail
  go_loopw [8] (fun s8 wr => ∃ i : Nat, s8 = .int .i64 i ∧ i ≤ n ∧ Hid ((l.take i).any p = false) ∧ Hid (Below w.heap.size w wr)) (fun s8 _ => n - (intOf s8).toNat)
  case atStart => exact ⟨0, rfl, by omega, Lib.hid rfl, Lib.hid (Below.refl _ _)⟩
  case round =>
    obtain ⟨i, rfl, hi, HP, BT⟩ := hrel
    by_cases hin : i < n
    · obtain ⟨b, o, x, rfl, -, he, -, d0, d1, d2, d3, d4, d5, d6⟩ := (R0.out.below BT.out).ent hin
      have HX := Lib.hid he
      clear he
      have HC := Lib.hid (HG.out wr x BT.out)
      cases hp : p x
      · rw [hp] at HC
        have HP' := Lib.hid (any_take HX.out HP.out hp)
        clear hp
        go_wp2_with fail
        refine HC.out.mono ?_
        rintro e w1 ⟨rfl, b1⟩
        have B1 := Lib.hid (BT.out.trans (b1.mono BT.out.size))
        clear b1 d0 d1 d2 d3 d4 d5 d6
        go_wp2_with fail
        go_roundw
        case rel => exact ⟨i + 1, by go_num, by omega, HP', B1⟩
        case measure => simp [intOf]; omega
      · rw [hp] at HC
        have HP' := Lib.hid (any_at HX.out hp)
        clear hp
        go_wp2_with fail
        refine HC.out.mono ?_
        rintro e w1 ⟨rfl, b1⟩
        have B1 := Lib.hid (BT.out.trans (b1.mono BT.out.size))
        clear b1 d0 d1 d2 d3 d4 d5 d6
        go_wp2_with fail
        go_ret
        exact ⟨Or.inl ⟨i, rfl, HP'.out⟩, B1.out⟩
    · obtain rfl : i = n := by omega
      have HF := Lib.hid (show l.any p = false by have := HP.out; rwa [List.take_of_length_le (by rw [HL.out]; omega)] at this)
      go_wp2_with fail
      go_ret
      exact ⟨Or.inr ⟨rfl, HF.out⟩, BT.out⟩

theorem containsE_c (w : World) (B : Nat) (A : Option Addr) (c n : Nat) (l : List Ent) (h : Rd w B A c 7 n (els l)) (G : FuncId) (cb : Array Value) (p : Ent → Bool) (eg : ∀ args w, (callFunc G args).run Try.prog w = .ok (.enter G args) w)
    (hG : ∀ W (x : Ent), Below w.heap.size w W → Calls Try.prog G (#[ev x] ++ cb) W fun e W' => e = .returned (.bool (p x)) ∧ Below W.heap.size W W') :
    Calls Try.prog 35 #[.slice A n c, .func (.func G) #[] cb] w fun e w' => e = .returned (.bool (l.any p)) ∧ Below w.heap.size w w' := by
  have HC := Lib.hid (indexE_c w B A c n l h G cb p eg hG)
  clear h hG
  go_enter Try.func35, Try.ntmps35
  go_wp2_with fail
  refine HC.out.mono ?_
  rintro e w1 ⟨⟨i, rfl, ha⟩ | ⟨rfl, ha⟩, b1⟩
  · have h0 : (0 : Int) ≤ (i : Int) := by omega
    have HA := Lib.hid ha
    clear ha
    go_wp2_with fail
    go_ret
    exact ⟨by rw [HA.out]; rfl, b1⟩
  · have HA := Lib.hid ha
    clear ha
    go_wp2_with fail
    go_ret
    exact ⟨by rw [HA.out]; rfl, b1⟩

set_option maxRecDepth 100000 in
theorem hasClose_c (w : World) (k : Nat) (x e : Ent) (K : Blk w k 34 (ecs e)) :
    Calls Try.prog 36 #[ev x, .pointer (some ⟨k, 0, none⟩)] w fun q w' => q = .returned (.bool (PEnt.same x e)) ∧ Below w.heap.size w w' := by
  have b0 := (Below.refl w.heap.size w).alloc (Nat.le_refl _) (.cells #[.int .i64 x.fr, .int .i64 x.boot, .int .i64 x.seq, .int .i64 x.ord, .int .i64 x.lev, .int .i64 x.stamp, .string x.data] 34)
  have K1 := Blk.newEnt w 34 x
  have K2 := K.alloc (.cells #[.int .i64 x.fr, .int .i64 x.boot, .int .i64 x.seq, .int .i64 x.ord, .int .i64 x.lev, .int .i64 x.stamp, .string x.data] 34)
  obtain ⟨d0, d1, d2, d3, d4, d5, d6⟩ := K1.ent
  obtain ⟨f0, f1, f2, f3, f4, f5, f6⟩ := K2.ent
  clear K K1 K2
  show Calls _ _ #[.agg #[.int .i64 x.fr, .int .i64 x.boot, .int .i64 x.seq, .int .i64 x.ord, .int .i64 x.lev, .int .i64 x.stamp, .string x.data], _] _ _
  go_enter Try.func36, Try.ntmps36
  go_wp2_with fail
  generalize (w.alloc (.cells #[.int .i64 x.fr, .int .i64 x.boot, .int .i64 x.seq, .int .i64 x.ord, .int .i64 x.lev, .int .i64 x.stamp, .string x.data] 34)) = w1 at *
  clear d0 d1 d2 d3 d4 d5 d6 f0 f1 f2 f3 f4 f5 f6
  refine (Same_c w1 x e).mono ?_
  rintro q w2 ⟨rfl, b2⟩
  go_wp2_with fail
  go_ret
  exact ⟨rfl, b0.trans (b2.mono b0.size)⟩

set_option maxHeartbeats 4000000 in
set_option maxRecDepth 100000 in
/-- EqualFunc, by the program's Eq. -/
theorem equalE_c (w : World) (B1 B2 : Nat) (A A2 : Option Addr) (c n c2 n2 : Nat) (l l2 : List Ent) (h : Rd w B1 A c 7 n (els l)) (h2 : Rd w B2 A2 c2 7 n2 (els l2)) :
    Calls Try.prog 33 #[.slice A n c, .slice A2 n2 c2, .func (.func 34) #[] #[]] w fun x w' => x = .returned (.bool (PEnt.eqL l l2)) ∧ Below w.heap.size w w' := by
  have HL1 := Lib.hid h.elen
  have HL2 := Lib.hid h2.elen
  have hcap := h.cap
  have hle := h.le
  have hn : n ≤ 9223372036854775807 := by unfold maxLen at hcap; omega
  have hcap2 := h2.cap
  have hle2 := h2.le
  have hn2 : n2 ≤ 9223372036854775807 := by unfold maxLen at hcap2; omega
  have R1 := Lib.hid h.tight
  have R2 := Lib.hid h2.tight
  have eg : ∀ args w, (callFunc 34 args).run Try.prog w = .ok (.enter 34 args) w := enters_of Try.func34 (by kernel_rfl) rfl
  clear h h2 hcap hle hcap2 hle2
  by_cases hne : n = n2
  · subst hne
    go_enter Try.func33, Try.ntmps33
    go_wp2_with fail
    go_loopw [17] (fun s17 wr => ∃ i : Nat, i ≤ n ∧ s17 = .int .i64 i ∧ Hid (PEnt.eqL l l2 = PEnt.eqL (l.drop i) (l2.drop i)) ∧ Hid (Below w.heap.size w wr)) (fun s17 _ => n - (intOf s17).toNat)
    case atStart => exact ⟨0, by omega, rfl, Lib.hid rfl, Lib.hid (Below.refl _ _)⟩
    case round =>
      obtain ⟨i, hi, rfl, HQ, BL⟩ := hrel
      by_cases hlt : i < n
      · obtain ⟨b1, o1, e1, rfl, hb1, he1, -, d0, d1, d2, d3, d4, d5, d6⟩ := (R1.out.below BL.out).ent hlt
        obtain ⟨b2, o2, e2, rfl, hb2, he2, -, g0, g1, g2, g3, g4, g5, g6⟩ := (R2.out.below BL.out).ent hlt
        have HS := Lib.hid (eqL_step he1 he2)
        clear he1 he2
        have sz := BL.out.size
        have a1 := (Below.refl wr.heap.size wr).alloc (Nat.le_refl _) (.cells #[.int .i64 e1.fr, .int .i64 e1.boot, .int .i64 e1.seq, .int .i64 e1.ord, .int .i64 e1.lev, .int .i64 e1.stamp, .string e1.data] 34)
        have a2 := (a1.alloc (by simp) (.cells #[.int .i64 e2.fr, .int .i64 e2.boot, .int .i64 e2.seq, .int .i64 e2.ord, .int .i64 e2.lev, .int .i64 e2.stamp, .string e2.data] 34))
        have c0 := (a1.cell (p := ⟨b2, o2 + i * 7, none⟩) (by show b2 < _; omega)).trans g0
        have c1 := (a1.cell (p := ⟨b2, o2 + i * 7 + 1, none⟩) (by show b2 < _; omega)).trans g1
        have c2' := (a1.cell (p := ⟨b2, o2 + i * 7 + 2, none⟩) (by show b2 < _; omega)).trans g2
        have c3 := (a1.cell (p := ⟨b2, o2 + i * 7 + 3, none⟩) (by show b2 < _; omega)).trans g3
        have c4 := (a1.cell (p := ⟨b2, o2 + i * 7 + 4, none⟩) (by show b2 < _; omega)).trans g4
        have c5 := (a1.cell (p := ⟨b2, o2 + i * 7 + 5, none⟩) (by show b2 < _; omega)).trans g5
        have c6 := (a1.cell (p := ⟨b2, o2 + i * 7 + 6, none⟩) (by show b2 < _; omega)).trans g6
        clear g0 g1 g2 g3 g4 g5 g6 hb1 hb2
        have BA := Lib.hid (BL.out.trans (a2.mono sz))
        clear a1 a2
        go_wp2_with fail
        clear d0 d1 d2 d3 d4 d5 d6 c0 c1 c2' c3 c4 c5 c6
        generalize ((wr.alloc (.cells #[.int .i64 e1.fr, .int .i64 e1.boot, .int .i64 e1.seq, .int .i64 e1.ord, .int .i64 e1.lev, .int .i64 e1.stamp, .string e1.data] 34)).alloc (.cells #[.int .i64 e2.fr, .int .i64 e2.boot, .int .i64 e2.seq, .int .i64 e2.ord, .int .i64 e2.lev, .int .i64 e2.stamp, .string e2.data] 34)) = w2 at *
        refine (Eq_c w2 e1 e2).mono ?_
        cases hq : PEnt.eqE e1 e2
        · have HE := Lib.hid (HQ.out.trans (HS.out.trans (by rw [hq])))
          clear hq
          rintro x w3 ⟨rfl, b3⟩
          go_wp2_with fail
          go_ret
          exact ⟨by rw [HE.out]; rfl, BA.out.trans (b3.mono BA.out.size)⟩
        · have HE := Lib.hid (HQ.out.trans (HS.out.trans (by rw [hq])))
          clear hq
          rintro x w3 ⟨rfl, b3⟩
          go_wp2_with fail
          go_roundw
          case rel => exact ⟨i + 1, by omega, by go_num, HE, Lib.hid (BA.out.trans (b3.mono BA.out.size))⟩
          case measure => simp [intOf]; omega
      · obtain rfl : i = n := by omega
        have HE := Lib.hid (HQ.out.trans (by rw [List.drop_of_length_le (by rw [HL1.out]; omega), List.drop_of_length_le (by rw [HL2.out]; omega)]))
        go_wp2_with fail
        go_ret
        exact ⟨by rw [HE.out]; rfl, BL.out⟩
  · have HE := Lib.hid (eqL_ne (l := l) (m := l2) (by rw [HL1.out, HL2.out]; exact hne))
    go_enter Try.func33, Try.ntmps33
    go_wp2_with fail
    go_ret
    exact ⟨by rw [HE.out]; rfl, Below.refl _ _⟩

set_option maxRecDepth 100000 in
theorem Front_c (w : World) (B1 B2 : Nat) (A A2 : Option Addr) (c n c2 n2 : Nat) (l l2 : List Ent) (h : Rd w B1 A c 7 n (els l)) (h2 : Rd w B2 A2 c2 7 n2 (els l2)) :
    Calls Try.prog 21 #[.slice A n c, .slice A2 n2 c2] w fun x w' => x = .returned (.bool (PLog.front l l2)) ∧ Below w.heap.size w w' := by
  have hl := h.elen
  have hl2 := h2.elen
  by_cases hlt : n ≤ n2
  · obtain ⟨A3, c3, hrun, R3⟩ := cut_any (P := Try.prog) (w := w) 22 34 Try.underlying22 ent_info h2 none (some (.int .i64 n)) 0 n 0 n (Or.inl ⟨rfl, rfl⟩) (Or.inr ⟨rfl, rfl⟩) (by omega) hlt
    have e3 : ((els l2).drop (0 * 7)).take ((n - 0) * 7) = els (l2.take n) := by rw [Nat.zero_mul, List.drop_zero, Nat.sub_zero, els_take]
    rw [e3, Nat.sub_zero] at R3
    rw [Nat.sub_zero] at hrun
    have HE := Lib.hid (show PLog.front l l2 = PEnt.eqL l (l2.take n) by unfold PLog.front; rw [hl, hl2, decide_eq_true hlt]; rfl)
    have HC := Lib.hid (equalE_c w B1 B2 A A3 c n c3 n l (l2.take n) h R3)
    have jz : (n : Int) ≤ (n2 : Int) := by omega
    clear h h2 hl hl2 e3 R3 hlt
    go_enter Try.func21, Try.ntmps21
    go_wp2_with ((with_reducible show wpList _ _ _ ((⟨some 15, Op.slice _ _ _ _ _, _, _, _, _⟩ : Oper) :: _) _ _); (refine wpList_unguard rfl ?_; refine wpList_plain rfl fun K hK => ?_; unfold Oper.wp; rw [run_sliceOp (hrun _), Oper.upon_value]; refine hK _ _ ?_))
    refine HC.out.mono ?_
    rintro x w1 ⟨rfl, b1⟩
    go_wp2_with fail
    go_ret
    exact ⟨by rw [HE.out]; rfl, b1⟩
  · have HE := Lib.hid (show PLog.front l l2 = false by unfold PLog.front; rw [hl, hl2, decide_eq_false hlt]; rfl)
    clear h h2 hl hl2
    go_enter Try.func21, Try.ntmps21
    go_wp2_with fail
    go_ret
    exact ⟨by rw [HE.out]; rfl, Below.refl _ _⟩

theorem cloneE_c (w : World) (B : Nat) (A : Option Addr) (c n : Nat) (l : List Ent) (h : Rd w B A c 7 n (els l)) (hn : n ≤ 1000000) :
    Calls Try.prog 38 #[.slice A n c] w fun e w' => ∃ A' c', e = .returned (.slice A' n c') ∧ w'.ownsRow w.heap.size 34 7 (.slice A' n c') n (els l) ∧ Below w.heap.size w w' := by
  have hl := h.elen
  cases A with
  | none =>
    have hc := h.2.2.2.1 rfl
    have hle := h.le
    have h0 : n = 0 := by omega
    subst h0
    subst hc
    have e0 : l = [] := List.eq_nil_of_length_eq_zero hl
    subst e0
    clear h hl hle
    have hnil : ∀ W, (binOp .eql 22 (.slice none 0 0) (.slice none 0 0)).run Try.prog W = .ok (.bool true) W := fun W => by rw [run_eql_nil_slice W _ _ none 0 0 0 0 Try.underlying22]; rfl
    go_enter Try.func38, Try.ntmps38
    go_wp2_with fail
    go_ret
    exact ⟨none, 0, rfl, World.ownsRow_nil _ _ _ _, Below.refl _ _⟩
  | some ad =>
    have hr := h.alloc (.cells #[] 34)
    have hown0 := World.ownsRow_lit (base := w.heap.size) (e := 34) (size := 7) w #[] 0 (Nat.le_refl _) (by simp [maxLen]) rfl
    have hb0 : Below w.heap.size w (w.alloc (.cells #[] 34)) := (Below.refl _ _).alloc (Nat.le_refl _) _
    clear h hl
    have hnil : ∀ W, (binOp .eql 22 (.slice (some ad) n c) (.slice none 0 0)).run Try.prog W = .ok (.bool false) W := fun W => Lib.run_eql_slice_nil W _ _ (some ad) n c 0 0 Try.underlying22
    go_enter Try.func38, Try.ntmps38
    go_wp2_with (at_builtin; go_must (refine wpList_app rfl (.tmp 5) (.tmp 6) _ rfl w.heap.size 34 _ 7 64 Try.underlying22 ent_info rfl (by omega) _ 0 [] rfl hown0 B (some ad) c n (els l) rfl hr (els_one l) ?c1 ?c2 hb0.size ?_))
    case c1 => unfold maxLen; omega
    case c2 => omega
    intro A' c' w1 hown1 hgrow1 hbel1
    have hown1' : w1.ownsRow w.heap.size 34 7 (.slice A' n c') n (els l) := by simpa using hown1
    clear hown1
    have e1 : (0 + n) = n := by omega
    try rw [e1]
    go_wp2_with fail
    go_ret
    exact ⟨A', c', rfl, hown1', hb0.trans hbel1⟩
end Go.Proofs.Ytnhdehbpcgeceaa
