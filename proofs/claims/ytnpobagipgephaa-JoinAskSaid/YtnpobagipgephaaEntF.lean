/- The library's IndexFunc, ContainsFunc, Clone at entries. -/
import Derived.Test.YtnpobagipgephaaEntN
import Derived.Test.YtnpobagipgephaaEntC
import Derived.Laws.StructEq
import Derived.Shelf.Abstract
namespace Go.Proofs.Ytnpobagipgephaa
open Go.RowKit


set_option maxHeartbeats 4000000 in
set_option maxRecDepth 100000 in
theorem indexE2_c (w : World) (B : Nat) (A : Option Addr) (c n : Nat) (l : List Ent) (h : Rd w B A c 7 n (els l)) (G : FuncId) (cb : Array Value) (p : Ent → Bool) (eg : ∀ args w, (callFunc G args).run Try.prog w = .ok (.enter G args) w)
    (hG : ∀ W (x : Ent), Below w.heap.size w W → Calls Try.prog G (#[ev x] ++ cb) W fun e W' => e = .returned (.bool (p x)) ∧ Below W.heap.size W W') :
    Calls Try.prog 45 #[.slice A n c, .func (.func G) #[] cb] w fun e w' => ((∃ i : Nat, e = .returned (.int .i64 i) ∧ i < n ∧ (l.take i).any p = false ∧ l[i]?.map p = some true) ∨ e = .returned (.int .i64 (-1)) ∧ l.any p = false) ∧ Below w.heap.size w w' := by
  have HG := Lib.hid hG
  have R0 := Lib.hid h.tight
  have hcap := h.cap
  have hle := h.le
  have HL := Lib.hid h.elen
  have hn : n ≤ 9223372036854775807 := by unfold maxLen at hcap; omega
  clear hG h hcap hle
  go_enter Try.func45, Try.ntmps45
  go_wp2_with fail
  go_loopw [8] (fun s8 wr => ∃ i : Nat, s8 = .int .i64 i ∧ i ≤ n ∧ Hid ((l.take i).any p = false) ∧ Hid (Below w.heap.size w wr)) (fun s8 _ => n - (intOf s8).toNat)
  case atStart => exact ⟨0, rfl, by omega, Lib.hid rfl, Lib.hid (Below.refl _ _)⟩
  case round =>
    obtain ⟨i, rfl, hi, HP, BT⟩ := hrel
    by_cases hin : i < n
    · obtain ⟨b, o, x, rfl, -, he, -, d0, d1, d2, d3, d4, d5, d6⟩ := (R0.out.below BT.out).ent hin
      have HX := Lib.hid he
      clear he
      have HC := Lib.hid (HG.out wr x BT.out)
      cases hp : p x
      · rw [hp] at HC
        have HP' := Lib.hid (any_take HX.out HP.out hp)
        clear hp
        go_wp2_with fail
        refine HC.out.mono ?_
        rintro e w1 ⟨rfl, b1⟩
        have B1 := Lib.hid (BT.out.trans (b1.mono BT.out.size))
        clear b1 d0 d1 d2 d3 d4 d5 d6
        go_wp2_with fail
        go_roundw
        case rel => exact ⟨i + 1, by go_num, by omega, HP', B1⟩
        case measure => simp [intOf]; omega
      · rw [hp] at HC
        have HP' := Lib.hid (show l[i]?.map p = some true by rw [HX.out]; exact congrArg some hp)
        clear hp
        go_wp2_with fail
        refine HC.out.mono ?_
        rintro e w1 ⟨rfl, b1⟩
        have B1 := Lib.hid (BT.out.trans (b1.mono BT.out.size))
        clear b1 d0 d1 d2 d3 d4 d5 d6
        go_wp2_with fail
        go_ret
        exact ⟨Or.inl ⟨i, rfl, hin, HP.out, HP'.out⟩, B1.out⟩
    · obtain rfl : i = n := by omega
      have HF := Lib.hid (show l.any p = false by have := HP.out; rwa [List.take_of_length_le (by rw [HL.out]; omega)] at this)
      go_wp2_with fail
      go_ret
      exact ⟨Or.inr ⟨rfl, HF.out⟩, BT.out⟩

/-- Whether there is one. -/
theorem indexE_c (w : World) (B : Nat) (A : Option Addr) (c n : Nat) (l : List Ent) (h : Rd w B A c 7 n (els l)) (G : FuncId) (cb : Array Value) (p : Ent → Bool) (eg : ∀ args w, (callFunc G args).run Try.prog w = .ok (.enter G args) w)
    (hG : ∀ W (x : Ent), Below w.heap.size w W → Calls Try.prog G (#[ev x] ++ cb) W fun e W' => e = .returned (.bool (p x)) ∧ Below W.heap.size W W') :
    Calls Try.prog 45 #[.slice A n c, .func (.func G) #[] cb] w fun e w' => ((∃ i : Nat, e = .returned (.int .i64 i) ∧ l.any p = true) ∨ e = .returned (.int .i64 (-1)) ∧ l.any p = false) ∧ Below w.heap.size w w' := by
  refine (indexE2_c w B A c n l h G cb p eg hG).mono ?_
  rintro e w' ⟨⟨i, rfl, _, _, hx⟩ | h, hb⟩
  · cases hy : l[i]? with
    | none => rw [hy] at hx; cases hx
    | some x =>
      rw [hy] at hx
      exact ⟨.inl ⟨i, rfl, any_at hy (by simpa using hx)⟩, hb⟩
  · exact ⟨.inr h, hb⟩

theorem containsE_c (w : World) (B : Nat) (A : Option Addr) (c n : Nat) (l : List Ent) (h : Rd w B A c 7 n (els l)) (G : FuncId) (cb : Array Value) (p : Ent → Bool) (eg : ∀ args w, (callFunc G args).run Try.prog w = .ok (.enter G args) w)
    (hG : ∀ W (x : Ent), Below w.heap.size w W → Calls Try.prog G (#[ev x] ++ cb) W fun e W' => e = .returned (.bool (p x)) ∧ Below W.heap.size W W') :
    Calls Try.prog 42 #[.slice A n c, .func (.func G) #[] cb] w fun e w' => e = .returned (.bool (l.any p)) ∧ Below w.heap.size w w' := by
  have HC := Lib.hid (indexE_c w B A c n l h G cb p eg hG)
  clear h hG
  go_enter Try.func42, Try.ntmps42
  go_wp2_with fail
  refine HC.out.mono ?_
  rintro e w1 ⟨⟨i, rfl, ha⟩ | ⟨rfl, ha⟩, b1⟩
  · have h0 : (0 : Int) ≤ (i : Int) := by omega
    have HA := Lib.hid ha
    clear ha
    go_wp2_with fail
    go_ret
    exact ⟨by rw [HA.out]; rfl, b1⟩
  · have HA := Lib.hid ha
    clear ha
    go_wp2_with fail
    go_ret
    exact ⟨by rw [HA.out]; rfl, b1⟩

theorem cloneE_c (w : World) (B : Nat) (A : Option Addr) (c n : Nat) (l : List Ent) (h : Rd w B A c 7 n (els l)) (hn : n ≤ 1000000) :
    Calls Try.prog 16 #[.slice A n c] w fun e w' => ∃ A' c', e = .returned (.slice A' n c') ∧ w'.ownsRow w.heap.size 47 7 (.slice A' n c') n (els l) ∧ Below w.heap.size w w' := by
  have hl := h.elen
  cases A with
  | none =>
    have hc := h.2.2.2.1 rfl
    have hle := h.le
    have h0 : n = 0 := by omega
    subst h0
    subst hc
    have e0 : l = [] := List.eq_nil_of_length_eq_zero hl
    subst e0
    clear h hl hle
    have hnil : ∀ W, (binOp .eql 28 (.slice none 0 0) (.slice none 0 0)).run Try.prog W = .ok (.bool true) W := fun W => by rw [run_eql_nil_slice W _ _ none 0 0 0 0 Try.underlying28]; rfl
    go_enter Try.func16, Try.ntmps16
    go_wp2_with fail
    go_ret
    exact ⟨none, 0, rfl, World.ownsRow_nil _ _ _ _, Below.refl _ _⟩
  | some ad =>
    have hr := h.alloc (.cells #[] 47)
    have hown0 := World.ownsRow_lit (base := w.heap.size) (e := 47) (size := 7) w #[] 0 (Nat.le_refl _) (by simp [maxLen]) rfl
    have hb0 : Below w.heap.size w (w.alloc (.cells #[] 47)) := (Below.refl _ _).alloc (Nat.le_refl _) _
    clear h hl
    have hnil : ∀ W, (binOp .eql 28 (.slice (some ad) n c) (.slice none 0 0)).run Try.prog W = .ok (.bool false) W := fun W => Lib.run_eql_slice_nil W _ _ (some ad) n c 0 0 Try.underlying28
    go_enter Try.func16, Try.ntmps16
    go_wp2_with (at_builtin; go_must (refine wpList_app rfl (.tmp 5) (.tmp 6) _ rfl w.heap.size 47 _ 7 64 Try.underlying28 ent_info rfl (by omega) _ 0 [] rfl hown0 B (some ad) c n (els l) rfl hr (els_one l) ?c1 ?c2 hb0.size ?_))
    case c1 => unfold maxLen; omega
    case c2 => omega
    intro A' c' w1 hown1 hgrow1 hbel1
    have hown1' : w1.ownsRow w.heap.size 47 7 (.slice A' n c') n (els l) := by simpa using hown1
    clear hown1
    have e1 : (0 + n) = n := by omega
    try rw [e1]
    go_wp2_with fail
    go_ret
    exact ⟨A', c', rfl, hown1', hb0.trans hbel1⟩
end Go.Proofs.Ytnpobagipgephaa
