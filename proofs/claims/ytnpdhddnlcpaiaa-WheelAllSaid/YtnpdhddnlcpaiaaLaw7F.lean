/- The statement's own 'same'. -/
import Derived.Test.YtnpdhddnlcpaiaaLaw7B
import Derived.Test.YtnpdhddnlcpaiaaPlainMod
import Derived.Test.YtnpdhddnlcpaiaaOw
namespace Go.Proofs.Ytnpdhddnlcpaiaa
open Go.RowKit

theorem tim_info : (Try.prog.info? 31).map (fun i => (i.zero, i.size, i.bytes)) = some (some (.agg #[.int .i64 0, .int .i64 0]), 2, 16) := by kernel_rfl
def pc (p : Int × Int) : List Value := [.int .i64 p.1, .int .i64 p.2]
def tcs (l : List (Int × Int)) : List Value := l.flatMap pc
def pr (l : List (Int × Int)) (i : Nat) : Int × Int := l.getD i (0, 0)
theorem pr_mem {l : List (Int × Int)} {i : Nat} (h : i < l.length) : pr l i ∈ l := by
  simp [pr, List.getD, List.getElem?_eq_getElem h]
theorem tcs_len : ∀ l : List (Int × Int), (tcs l).length = l.length * 2
  | [] => rfl
  | p :: l => by
    have := tcs_len l
    unfold tcs at this ⊢
    rw [List.flatMap_cons, List.length_append, this, List.length_cons]; simp [pc]; omega
theorem tcs_at : ∀ (l : List (Int × Int)) (i : Nat), i < l.length → (tcs l)[i * 2]? = some (.int .i64 (pr l i).1) ∧ (tcs l)[i * 2 + 1]? = some (.int .i64 (pr l i).2)
  | p :: l, 0, _ => by simp [tcs, pc, pr]
  | p :: l, i + 1, h => by
    have := tcs_at l i (by simpa using h)
    rw [show (i + 1) * 2 = i * 2 + 1 + 1 by omega]
    simpa [tcs, pc, pr] using this
theorem tcs_app (l m : List (Int × Int)) : tcs (l ++ m) = tcs l ++ tcs m := by simp [tcs]
theorem tcs_one (l : List (Int × Int)) : ∀ u ∈ tcs l, u.oneCell' = true := by
  intro u hu
  obtain ⟨p, _, hp⟩ := List.mem_flatMap.1 hu
  simp [pc] at hp
  rcases hp with rfl | rfl <;> rfl
theorem tcs_take (l : List (Int × Int)) (m : Nat) (h : m ≤ l.length) : (tcs l).take (m * 2) = tcs (l.take m) := by
  conv => lhs; rw [← List.take_append_drop m l, tcs_app]
  rw [List.take_left' (by rw [tcs_len, List.length_take]; omega)]
theorem tcs_drop (l : List (Int × Int)) (m : Nat) (h : m ≤ l.length) : (tcs l).drop (m * 2) = tcs (l.drop m) := by
  conv => lhs; rw [← List.take_append_drop m l, tcs_app]
  rw [List.drop_left' (by rw [tcs_len, List.length_take]; omega)]
theorem tcs_set (l1 l2 : List (Int × Int)) (i t u : Int) : (tcs (l1 ++ (i, t) :: l2)).set (l1.length * 2 + 1) (.int .i64 u) = tcs (l1 ++ (i, u) :: l2) := by
  rw [tcs_app, tcs_app, List.set_append_right _ _ (by rw [tcs_len]; omega), tcs_len]
  rw [show l1.length * 2 + 1 - l1.length * 2 = 1 by omega]
  simp [tcs, pc]
theorem Rd.plen {w : World} {B : Nat} {A : Option Addr} {c n : Nat} {l : List (Int × Int)} (h : Rd w B A c 2 n (tcs l)) : l.length = n := by
  have := h.len; rw [tcs_len] at this; omega
theorem Rd.pair {w : World} {B : Nat} {A : Option Addr} {c n : Nat} {l : List (Int × Int)} (h : Rd w B A c 2 n (tcs l)) {i : Nat} (hi : i < n) :
    ∃ b o, A = some ⟨b, o, none⟩ ∧ b < w.heap.size ∧ w.cell? ⟨b, o + i * 2, none⟩ = some (.int .i64 (pr l i).1) ∧ w.cell? ⟨b, o + i * 2 + 1, none⟩ = some (.int .i64 (pr l i).2) := by
  obtain ⟨b, o, hA, _, hc⟩ := h.2.2.2.2 (by omega)
  obtain ⟨t1, t2⟩ := tcs_at l i (by rw [h.plen]; exact hi)
  have c1 := hc _ _ t1
  exact ⟨b, o, hA, World.block_lt_of_cell? w _ c1, c1, by have := hc _ _ t2; rwa [← Nat.add_assoc] at this⟩

set_option maxHeartbeats 1600000 in
set_option maxRecDepth 100000 in
theorem same_c (w : World) (g : Nat) (now : Int) (T : List (Int × Bool)) (l : List (Int × Int)) (B : Nat) (A : Option Addr) (c n : Nat) (hW : Wl w g now T) (hM : PMod.Mod l T) (hR : Rd w B A c 2 n (tcs l)) (hn : n < 1000) :
    Calls Try.prog 14 #[.pointer (some ⟨g, 0, none⟩), .slice A n c, .int .i64 now] w fun e w' => e = .returned (.bool true) ∧ Below w.heap.size w w' := by
  have hln := hR.plen
  obtain ⟨m1, m2, m3⟩ := hM.next
  rw [hln] at m1 m3
  have HC := Lib.hid (show PWheel.cnt T 64 = n by rw [hM.cnt, hln])
  have HT := Lib.hid (fun p hp => PMod.told_in (p := p) hM hp)
  obtain ⟨nx, hnx⟩ : ∃ nx, nx = (PWheel.next T 64).1 := ⟨_, rfl⟩
  rw [← hnx] at m2 m3
  have HX := Lib.hid (And.intro m1 (And.intro m2 (And.intro m3 (And.intro hnx hln))))
  have R0 := Lib.hid hR
  have W0 := Lib.hid hW
  clear m1 m2 m3 hnx hR hW hM hln
  go_enter Try.func14, Try.ntmps14
  go_wp2_with fail
  refine (next_c w _ _ _ W0.out).mono ?_
  rw [← HX.out.2.2.2.1, HX.out.1]
  rintro e w1 ⟨rfl, b1⟩
  have W1 := Lib.hid (W0.out.past b1)
  have R1 := Lib.hid (R0.out.past b1)
  have B1 := Lib.hid b1
  clear W0 R0 b1
  rcases Nat.eq_zero_or_pos n with rfl | hpos
  · rw [show decide (0 < 0) = false from rfl]
    go_wp2_with fail
    refine (len_c w1 _ _ _ W1.out).mono ?_
    rw [HC.out]
    rintro e w2 ⟨rfl, b2⟩
    have W2 := Lib.hid (W1.out.past b2)
    have B2 := Lib.hid (B1.out.trans (b2.mono B1.out.size))
    clear W1 R1 B1 b2
    go_wp2_with fail
    refine (now_c w2 _ _ _ W2.out).mono ?_
    rintro e w' ⟨rfl, rfl⟩
    go_wp2_with fail
    go_loopw [9] (fun s9 wr => s9 = .int .i64 0 ∧ Hid (Below w.heap.size w wr)) (fun s9 _ => 0)
    case atStart => exact ⟨rfl, B2⟩
    case round =>
      clear B2 W2
      obtain ⟨rfl, BT⟩ := hrel
      go_wp2_with fail
      go_loopw [12, 13] (fun s12 s13 wr => s12 = .bool true ∧ s13 = .int .i64 0 ∧ Hid (Below w.heap.size w wr)) (fun _ s13 _ => 0)
      case atStart => exact ⟨rfl, rfl, BT⟩
      case round =>
        clear BT
        obtain ⟨rfl, rfl, BT⟩ := hrel
        go_wp2_with fail
        go_ret
        exact ⟨rfl, BT.out⟩
  · rw [show decide (0 < n) = true by simpa using hpos]
    go_wp2_with fail
    refine (len_c w1 _ _ _ W1.out).mono ?_
    rw [HC.out]
    rintro e w2 ⟨rfl, b2⟩
    have W2 := Lib.hid (W1.out.past b2)
    have R2 := Lib.hid (R1.out.past b2)
    have B2 := Lib.hid (B1.out.trans (b2.mono B1.out.size))
    clear W1 R1 B1 b2
    go_wp2_with fail
    refine (now_c w2 _ _ _ W2.out).mono ?_
    rintro e w' ⟨rfl, rfl⟩
    go_wp2_with fail
    go_loopw [9] (fun s9 wr => ∃ i : Nat, i ≤ n ∧ s9 = .int .i64 i ∧ Hid (Wl wr g now T) ∧ Hid (Rd wr B A c 2 n (tcs l)) ∧ Hid (Below w.heap.size w wr)) (fun s9 _ => n - (intOf s9).toNat)
    case atStart => exact ⟨0, by omega, rfl, W2, R2, B2⟩
    case round =>
      clear B2 W2 R2
      obtain ⟨i, hi, rfl, WT, RT, BT⟩ := hrel
      by_cases hin : i < n
      · obtain ⟨b, o, hA, hb, c1, c2⟩ := RT.out.pair hin
        have hm := pr_mem (l := l) (i := i) (by rw [HX.out.2.2.2.2]; exact hin)
        have ht := HT.out _ hm
        have hle := HX.out.2.1 _ hm
        obtain ⟨⟨x, t⟩, hp⟩ : ∃ p, p = pr l i := ⟨_, rfl⟩
        rw [← hp] at c1 c2 ht hle hm
        simp only at c1 c2 ht hle
        have HH := Lib.hid (And.intro hm hp)
        have HTT := Lib.hid ht
        have HA := Lib.hid (And.intro (RT.out) hA)
        subst hA
        clear hm ht RT hp
        go_wp2_with fail
        refine (at_c wr _ _ _ WT.out x).mono ?_
        rw [HTT.out]
        rintro e w3 ⟨rfl, q, rfl⟩
        have c1' : (wr.drewN q).cell? ⟨b, o + i * 2, none⟩ = some (.int .i64 x) := c1
        have c2' : (wr.drewN q).cell? ⟨b, o + i * 2 + 1, none⟩ = some (.int .i64 t) := c2
        have W3 := Lib.hid (WT.out.touch ((Touch.refl [] wr).drawn q) (by simp))
        have R3 := Lib.hid (HA.out.1.past (below_drawn (Below.refl _ wr) q))
        have B3 := Lib.hid (below_drawn BT.out q)
        clear c1 c2 WT BT HA
        generalize wr.drewN q = w3 at *
        go_wp2_with fail
        go_roundw
        case rel => exact ⟨i + 1, by omega, by go_num, W3, R3, B3⟩
        case measure => simp [intOf]; omega
      · go_wp2_with fail
        go_loopw [12, 13] (fun s12 s13 wr => ∃ (i : Nat) (f : Bool), i ≤ n ∧ s12 = .bool f ∧ s13 = .int .i64 i ∧ Hid ((∃ m, m < i ∧ (pr l m).2 = nx) → f = true) ∧ Hid (Rd wr B A c 2 n (tcs l)) ∧ Hid (Below w.heap.size w wr)) (fun _ s13 _ => n - (intOf s13).toNat)
        case atStart => exact ⟨0, false, by omega, by simp; omega, rfl, Lib.hid (fun ⟨m, h, _⟩ => absurd h (by omega)), RT, BT⟩
        case round =>
          clear WT RT BT hin hi
          obtain ⟨i, f, hi, rfl, rfl, HF, RT, BT⟩ := hrel
          by_cases hin : i < n
          · obtain ⟨b, o, hA, hb, c1, c2⟩ := RT.out.pair hin
            obtain ⟨t, ht⟩ : ∃ t, t = (pr l i).2 := ⟨_, rfl⟩
            rw [← ht] at c2
            have HH := Lib.hid ht
            have HA := Lib.hid (RT.out)
            subst hA
            clear c1 ht RT
            cases f
            · by_cases htn : t = nx
              · subst htn
                go_wp2_with fail
                go_roundw
                case rel => exact ⟨i + 1, true, by omega, by simp, by go_num, Lib.hid (fun _ => rfl), HA, BT⟩
                case measure => simp [intOf]; omega
              · have e1 : (t == nx) = false := by simp [htn]
                go_wp2_with fail
                go_roundw
                case rel => exact ⟨i + 1, false, by omega, by simp, by go_num, Lib.hid (fun ⟨m, h, h'⟩ => by
                  by_cases e : m = i
                  · subst e; rw [← HH.out] at h'; exact absurd h' htn
                  · exact HF.out ⟨m, by omega, h'⟩), HA, BT⟩
                case measure => simp [intOf]; omega
            · go_wp2_with fail
              go_roundw
              case rel => exact ⟨i + 1, true, by omega, rfl, by go_num, Lib.hid (fun _ => rfl), HA, BT⟩
              case measure => simp [intOf]; omega
          · have hf : f = true := HF.out (by
              obtain ⟨p, hp, e⟩ := HX.out.2.2.1 hpos
              obtain ⟨m, hm, rfl⟩ := List.getElem_of_mem hp
              have := HX.out.2.2.2.2
              exact ⟨m, by omega, by rw [← e]; simp [pr, List.getD, List.getElem?_eq_getElem hm]⟩)
            subst hf
            go_wp2_with fail
            go_ret
            exact ⟨rfl, BT.out⟩
end Go.Proofs.Ytnpdhddnlcpaiaa
