/- The walk of OnceAll. -/
import Derived.Test.YthffglfckcickaaLaw6A
namespace Go.Proofs.Ythffglfckcickaa
open Go.RowKit

/-- OnceAll's make: n++; a copy of l. -/
theorem all1_c (w : World) (nb lb : Nat) (x : Int) (B : Nat) (A : Option Addr) (c n : Nat) (l : List Int) (h : Blk w nb 3 [.int .i64 x]) (hl : Blk w lb 22 [.slice A n c]) (hne : lb ≠ nb) (hr : Rd w B A c 1 n (is l)) (hB : B ≤ nb) (hn : n ≤ 1000) (h1 : 0 ≤ x) (h2 : x ≤ 1000) :
    Calls Try.prog 10 #[.pointer (some ⟨nb, 0, none⟩), .pointer (some ⟨lb, 0, none⟩)] w fun e w' => ∃ A n c, e = .returned (.slice A n c) ∧ Rd w' w'.heap.size A c 1 n (is l) ∧ Touch [nb] w w' ∧ Blk w' nb 3 [.int .i64 (x + 1)] := by
  have hc := Blk.cell h (i := 0) rfl
  have hz := Blk.free h 0
  have hset := Blk.set h 0 (.int .i64 (x + 1))
  have t1 : Touch [nb] w (w.setCell ⟨nb, 0, none⟩ (.int .i64 (x + 1))) := (Touch.refl _ _).cell (by simp) _ _
  have hl1 := Blk.cell (hl.touch t1 (by simpa using hne)) (i := 0) rfl
  have hr1 := hr.setCell (p := ⟨nb, 0, none⟩) hB (.int .i64 (x + 1))
  go_enter Try.func10, Try.ntmps10
  go_wp2_with (at_builtin; go_must (refine wpList_app rfl (.const (.slice none 0 0)) (.tmp 5) _ rfl (w.setCell ⟨nb, 0, none⟩ (.int .i64 (x + 1))).heap.size 2 _ 1 8 Try.underlying22 int64_info rfl (by omega) _ 0 [] rfl (World.ownsRow_nil _ _ _ _) B A c n (is l) rfl hr1 (is_one l) (by unfold maxLen; omega) (by omega) (Nat.le_refl _) ?_))
  intro A' c' w1 hown1 hgrow1 hbel1
  have hsz : (w.setCell ⟨nb, 0, none⟩ (.int .i64 (x + 1))).heap.size = w.heap.size := by simp [World.setCell]
  have hown1' : w1.ownsRow w.heap.size 2 1 (.slice A' n c') n (is l) := by simpa using hown1
  rw [← hsz] at hbel1
  clear hown1 hsz
  have e1 : 0 + n = n := by omega
  try rw [e1]
  go_wp2_with fail
  go_ret
  exact ⟨A', n, c', rfl, Rd.of_own hown1', t1.trans (.of_below hbel1), hset.past hbel1⟩

/-- OnceAll's cell behind i askings. -/
def AllSt (B g nb : Nat) (F : Value) (l : List Int) (i : Nat) (w : World) : Prop :=
  (i = 0 ∧ Cel w g 0 0 0 F nilS ∧ Blk w nb 3 [.int .i64 0]) ∨ (0 < i ∧ Made B w g l ∧ Blk w nb 3 [.int .i64 1])

theorem AllSt.get {B g nb lb i c n : Nat} {A : Option Addr} {l : List Int} {w0 w : World} (h : AllSt w0.heap.size g nb (.func (.func 10) #[] #[.pointer (some ⟨nb, 0, none⟩), .pointer (some ⟨lb, 0, none⟩)]) l i w)
    (hL : Blk w lb 22 [.slice A n c]) (hr : Rd w B A c 1 n (is l)) (hB : B ≤ nb) (hBg : B ≤ g) (hn : n ≤ 1000) (hgn : g ≠ nb) (hgl : g ≠ lb) (hln : lb ≠ nb) (hb : Below w0.heap.size w0 w) (h1 : w0.heap.size ≤ g) (h2 : w0.heap.size ≤ nb) :
    Calls Try.prog 12 #[.pointer (some ⟨g, 0, none⟩)] w fun e w' => ∃ w3, Made w0.heap.size w3 g l ∧ Blk w3 nb 3 [.int .i64 1] ∧ Blk w3 lb 22 [.slice A n c] ∧ Rd w3 B A c 1 n (is l) ∧ Below w0.heap.size w0 w3 ∧ Hands w3 l e w' := by
  have hl := hr.ilen
  rcases h with ⟨rfl, C, N⟩ | ⟨hi, M, N⟩
  · have hlt := N.lt
    have hgt := Blk.lt C
    refine (Get_counted w g nb 3 [.int .i64 (0 + 1)] _ _ l C hgn (callable_of Try.func10 (by kernel_rfl) rfl) (by omega)
      (fun v1 t1 => all1_c v1 nb lb 0 B A c n l (N.touch t1 (by simpa using hgn.symm)) (hL.touch t1 (by simpa using hgl.symm)) hln (hr.below (t1.below (by simpa using hBg) (by omega))) hB hn (by omega) (by omega))).mono fun e w' hh => ?_
    obtain ⟨w3, t3, M3, N3, H3⟩ := hh
    refine ⟨w3, M3.base hb.size, N3, hL.touch t3 (by simp; omega), hr.below (t3.below (by simp; omega) (by omega)), hb.trans (t3.below (by simp; omega) hb.size), H3⟩
  · exact (Get_made w _ g l M).mono fun e w' H => ⟨w, M, N, hL, hr, hb, H⟩

theorem is_set (l : List Int) (j : Nat) (x : Int) : is (l.set j x) = (is l).set j (.int .i64 x) := by simp [is]

set_option maxHeartbeats 4000000 in
set_option maxRecDepth 100000 in
theorem OnceAll_w (w : World) (A : Option Addr) (c n : Nat) (l : List Int) (h0 : Rd w w.heap.size A c 1 n (is l)) (k0 : Int) :
    Calls Try.prog 3 #[.slice A n c, .int .i64 k0] w fun e w' => e = .returned (.bool true) ∧ Below w.heap.size w w' := by
  have hmf : ∀ (fn : Fn) (first cap : Array Value) (w : World), (Instr.makeFunc fn first cap).run Try.prog w = .ok (.func fn first cap) w := fun _ _ _ _ => rfl
  have hnot : ∀ (x : Bool) (w : World), (Op.unary .not (.bool x)).run Try.prog w = .ok (.bool (!x)) w := fun _ _ => rfl
  by_cases h40 : 40 < n
  · go_enter Try.func3, Try.ntmps3
    go_wp2_with fail
    have L1 : Blk _ _ 22 [.slice A n c] := Blk.new w #[.slice A n c] 22
    have hb1 : Below w.heap.size w (w.alloc (.cells #[.slice A n c] 22)) := (Below.refl _ _).alloc (Nat.le_refl _) _
    refine (begun_c _).mono ?_
    generalize w.alloc (.cells #[.slice A n c] 22) = w1 at *
    rintro e w2 ⟨rfl, hb2⟩
    have L2 := L1.past hb2
    have hb2' := hb1.trans (hb2.mono hb1.size)
    have hr2 := h0.past hb2'
    have hl2 := Blk.cell L2 (i := 0) rfl
    have hz2 := Blk.free L2 0
    go_wp2_with (with_reducible show wpList _ _ _ ((⟨some 18, Op.slice 22 _ _ _ _, _, _, _, _⟩ : Oper) :: _) _ _
                 go_must (refine wpList_cut rfl 22 (.tmp 17) _ _ rfl 2 _ 1 8 Try.underlying22 int64_info w.heap.size A c n (is l) rfl hr2 0 40 (.inl ⟨rfl, rfl⟩) (.inr rfl) (by omega) (by omega) ?_))
    clear h0
    intro A c hr3
    rw [← is_take] at hr3
    generalize hn : (40 : Nat) = n at hr3 ⊢
    have hn40 : n ≤ 40 := by omega
    generalize l.take n = l at hr3
    have L3 := L2.set 0 (.slice A n c)
    have hb3 : Below w.heap.size w (w2.setCell ⟨w.heap.size, 0, none⟩ (.slice A n c)) := hb2'.setCell (Nat.le_refl _) _
    have hr4 := hr3.setCell (p := ⟨w.heap.size, 0, none⟩) (Nat.le_refl _) (.slice A n c)
    have hl4 := Blk.cell L3 (i := 0) rfl
    have hsz4 : (w2.setCell ⟨w.heap.size, 0, none⟩ (.slice A n c)).heap.size = w2.heap.size := by simp [World.setCell]
    have hsz3 := hb3.size
    clear hn
    by_cases k1 : k0 < 1
    · go_wp2_with fail
      go_ret
      exact ⟨rfl, hb3⟩
    by_cases k2 : 20 < k0
    · go_wp2_with fail
      go_ret
      exact ⟨rfl, hb3⟩
    obtain ⟨k, rfl⟩ : ∃ k : Nat, k0 = k := ⟨k0.toNat, by omega⟩
    go_wp2_with fail
    rw [← hsz4]
    clear hsz4 hb1 hb2 L1 L2 hb2' hr2 hl2 hz2 hr3
    generalize w2.setCell ⟨w.heap.size, 0, none⟩ (.slice A n c) = w3 at *
    have hk20 : k ≤ 20 := by omega
    clear k1 k2
    have N5 : Blk _ _ 3 [.int .i64 0] := Blk.new w3 #[.int .i64 0] 3
    have L5 := L3.alloc (.cells #[.int .i64 0] 3)
    have hb5 := hb3.alloc hsz3 (.cells #[.int .i64 0] 3)
    have hr5 := hr4.alloc (.cells #[.int .i64 0] 3)
    have hs5 : (w3.alloc (.cells #[.int .i64 0] 3)).heap.size = w3.heap.size + 1 := by simp
    refine (New_k _ 10 _).mono ?_
    have hlt3 := L3.lt
    generalize w3.alloc (.cells #[.int .i64 0] 3) = w5 at *
    rintro e w6 ⟨rfl, C6, hb6, -⟩
    have q5 : w3.heap.size < w5.heap.size := by omega
    clear hs5
    have L6 := L5.past hb6
    have N6 := N5.past hb6
    have hr6 := hr5.past hb6
    have hsz5 := hb5.size
    have hb6' := hb5.trans (hb6.mono hsz5)
    have hn6 := Blk.cell N6 (i := 0) rfl
    go_wp2_with fail
    refine (Done0_c w6 _ _ _ _ _ C6).mono ?_
    rintro e w' ⟨rfl, rfl⟩
    go_wp2_with fail
    go_loopw [8] (fun s8 wr => ∃ i : Nat, i ≤ k ∧ s8 = .int .i64 i ∧ AllSt w.heap.size w5.heap.size w3.heap.size (.func (.func 10) #[] #[.pointer (some ⟨w3.heap.size, 0, none⟩), .pointer (some ⟨w.heap.size, 0, none⟩)]) l i wr ∧ Blk wr w.heap.size 22 [.slice A n c] ∧ Rd wr w.heap.size A c 1 n (is l) ∧ Below w.heap.size w wr) (fun s8 _ => k - (intOf s8).toNat)
    case atStart => exact ⟨0, by omega, rfl, .inl ⟨rfl, C6, N6⟩, L6, hr6, hb6'⟩
    case round =>
      clear L5 hb5 hr5 N5 L6 N6 C6 hr6 hb6' hn6 hb6 L3 hb3 hr4 hl4
      obtain ⟨i, hi, rfl, hSt, hL, hr, hb⟩ := hrel
      by_cases hik : i < k
      · go_wp2_with fail
        refine (hSt.get (w0 := w) hL hr (by omega) (by omega) (by omega) (by omega) (by omega) (by omega) hb (by omega) (by omega)).mono ?_
        rintro e w8 ⟨w7, M7, N7, L7, hr7, hb7, A', n', c', rfl, o8, b8⟩
        have e1 := own_len o8
        have e2 := hr7.ilen
        obtain rfl : n' = n := by omega
        clear e1 e2 hSt hL hr hb
        have hn8 := Blk.cell (N7.past b8) (i := 0) rfl
        have hl8 := Blk.cell (L7.past b8) (i := 0) rfl
        obtain ⟨Am, nm, cm, C8, _⟩ := M7.past b8
        go_wp2_with fail
        refine (Done1_c w8 _ _ _ _ _ C8).mono ?_
        rintro e w' ⟨rfl, rfl⟩
        clear hn8 hl8 C8
        go_wp2_with fail
        go_loopw [10] (fun s10 wr => ∃ j : Nat, ∃ xs : List Int, j ≤ n' ∧ s10 = .int .i64 j ∧ wr.ownsRow w7.heap.size 2 1 (.slice A' n' c') n' (is xs) ∧ (∀ m, j ≤ m → xs.getD m 0 = l.getD m 0) ∧ Below w7.heap.size w7 wr) (fun s10 _ => n' - (intOf s10).toNat)
        case atStart => exact ⟨0, l, by omega, rfl, o8, fun _ _ => rfl, b8⟩
        case round =>
          clear o8 b8
          obtain ⟨j, xs, hj, rfl, o, hx, hbr⟩ := hrel
          by_cases hjn : j < n'
          · obtain ⟨gx, rfl, hgx, hgl, hat⟩ := own_at o (by omega)
            have hxj := hat j hjn
            rw [hx j (Nat.le_refl _)] at hxj
            obtain ⟨b, o', x, hA, hcell, _, hxe⟩ := (hr7.past hbr).int hjn
            rw [← hxe] at hxj
            have hl9 := Blk.cell (L7.past hbr) (i := 0) rfl
            rw [hA] at hl9
            have hz := o.frozenAt j
            have HX := Lib.hid hx; have HE := Lib.hid hxe
            clear hat hx hxe hA
            go_wp2_with fail
            go_region
            go_wp2
            go_roundw
            case rel =>
              refine ⟨j + 1, xs.set j _, by omega, by go_num, by rw [is_set]; exact (o.stored j _).1, fun m hm => ?_, hbr.drew.setCell hgx _⟩
              rw [← HX.out m (by omega)]
              simp only [List.getD, List.getElem?_set]
              rw [if_neg (by omega)]
            case measure => simp [intOf]; omega
          · obtain rfl : j = n' := by omega
            go_wp2_with fail
            go_roundw
            case rel => exact ⟨i + 1, by omega, by go_num, .inr ⟨by omega, M7.past hbr, N7.past hbr⟩, L7.past hbr, hr7.past hbr, hb7.trans (hbr.mono hb7.size)⟩
            case measure => simp [intOf]; omega
      · obtain rfl : i = k := by omega
        go_wp2_with fail
        go_ret
        exact ⟨rfl, hb⟩
  · go_enter Try.func3, Try.ntmps3
    go_wp2_with fail
    have L1 : Blk _ _ 22 [.slice A n c] := Blk.new w #[.slice A n c] 22
    have hb1 : Below w.heap.size w (w.alloc (.cells #[.slice A n c] 22)) := (Below.refl _ _).alloc (Nat.le_refl _) _
    refine (begun_c _).mono ?_
    generalize w.alloc (.cells #[.slice A n c] 22) = w1 at *
    rintro e w3 ⟨rfl, hb2⟩
    have L3 := L1.past hb2
    have hb3 := hb1.trans (hb2.mono hb1.size)
    have hr4 := h0.past hb3
    have hl4 := Blk.cell L3 (i := 0) rfl
    have hn40 : n ≤ 40 := by omega
    have hsz3 := hb3.size
    clear L1 hb1 hb2 h0
    by_cases k1 : k0 < 1
    · go_wp2_with fail
      go_ret
      exact ⟨rfl, hb3⟩
    by_cases k2 : 20 < k0
    · go_wp2_with fail
      go_ret
      exact ⟨rfl, hb3⟩
    obtain ⟨k, rfl⟩ : ∃ k : Nat, k0 = k := ⟨k0.toNat, by omega⟩
    go_wp2_with fail
    have hk20 : k ≤ 20 := by omega
    clear k1 k2
    have N5 : Blk _ _ 3 [.int .i64 0] := Blk.new w3 #[.int .i64 0] 3
    have L5 := L3.alloc (.cells #[.int .i64 0] 3)
    have hb5 := hb3.alloc hsz3 (.cells #[.int .i64 0] 3)
    have hr5 := hr4.alloc (.cells #[.int .i64 0] 3)
    have hs5 : (w3.alloc (.cells #[.int .i64 0] 3)).heap.size = w3.heap.size + 1 := by simp
    refine (New_k _ 10 _).mono ?_
    have hlt3 := L3.lt
    generalize w3.alloc (.cells #[.int .i64 0] 3) = w5 at *
    rintro e w6 ⟨rfl, C6, hb6, -⟩
    have q5 : w3.heap.size < w5.heap.size := by omega
    clear hs5
    have L6 := L5.past hb6
    have N6 := N5.past hb6
    have hr6 := hr5.past hb6
    have hsz5 := hb5.size
    have hb6' := hb5.trans (hb6.mono hsz5)
    have hn6 := Blk.cell N6 (i := 0) rfl
    go_wp2_with fail
    refine (Done0_c w6 _ _ _ _ _ C6).mono ?_
    rintro e w' ⟨rfl, rfl⟩
    go_wp2_with fail
    go_loopw [8] (fun s8 wr => ∃ i : Nat, i ≤ k ∧ s8 = .int .i64 i ∧ AllSt w.heap.size w5.heap.size w3.heap.size (.func (.func 10) #[] #[.pointer (some ⟨w3.heap.size, 0, none⟩), .pointer (some ⟨w.heap.size, 0, none⟩)]) l i wr ∧ Blk wr w.heap.size 22 [.slice A n c] ∧ Rd wr w.heap.size A c 1 n (is l) ∧ Below w.heap.size w wr) (fun s8 _ => k - (intOf s8).toNat)
    case atStart => exact ⟨0, by omega, rfl, .inl ⟨rfl, C6, N6⟩, L6, hr6, hb6'⟩
    case round =>
      clear L5 hb5 hr5 N5 L6 N6 C6 hr6 hb6' hn6 hb6 L3 hb3 hr4 hl4
      obtain ⟨i, hi, rfl, hSt, hL, hr, hb⟩ := hrel
      by_cases hik : i < k
      · go_wp2_with fail
        refine (hSt.get (w0 := w) hL hr (by omega) (by omega) (by omega) (by omega) (by omega) (by omega) hb (by omega) (by omega)).mono ?_
        rintro e w8 ⟨w7, M7, N7, L7, hr7, hb7, A', n', c', rfl, o8, b8⟩
        have e1 := own_len o8
        have e2 := hr7.ilen
        obtain rfl : n' = n := by omega
        clear e1 e2 hSt hL hr hb
        have hn8 := Blk.cell (N7.past b8) (i := 0) rfl
        have hl8 := Blk.cell (L7.past b8) (i := 0) rfl
        obtain ⟨Am, nm, cm, C8, _⟩ := M7.past b8
        go_wp2_with fail
        refine (Done1_c w8 _ _ _ _ _ C8).mono ?_
        rintro e w' ⟨rfl, rfl⟩
        clear hn8 hl8 C8
        go_wp2_with fail
        go_loopw [10] (fun s10 wr => ∃ j : Nat, ∃ xs : List Int, j ≤ n' ∧ s10 = .int .i64 j ∧ wr.ownsRow w7.heap.size 2 1 (.slice A' n' c') n' (is xs) ∧ (∀ m, j ≤ m → xs.getD m 0 = l.getD m 0) ∧ Below w7.heap.size w7 wr) (fun s10 _ => n' - (intOf s10).toNat)
        case atStart => exact ⟨0, l, by omega, rfl, o8, fun _ _ => rfl, b8⟩
        case round =>
          clear o8 b8
          obtain ⟨j, xs, hj, rfl, o, hx, hbr⟩ := hrel
          by_cases hjn : j < n'
          · obtain ⟨gx, rfl, hgx, hgl, hat⟩ := own_at o (by omega)
            have hxj := hat j hjn
            rw [hx j (Nat.le_refl _)] at hxj
            obtain ⟨b, o', x, hA, hcell, _, hxe⟩ := (hr7.past hbr).int hjn
            rw [← hxe] at hxj
            have hl9 := Blk.cell (L7.past hbr) (i := 0) rfl
            rw [hA] at hl9
            have hz := o.frozenAt j
            have HX := Lib.hid hx; have HE := Lib.hid hxe
            clear hat hx hxe hA
            go_wp2_with fail
            go_region
            go_wp2
            go_roundw
            case rel =>
              refine ⟨j + 1, xs.set j _, by omega, by go_num, by rw [is_set]; exact (o.stored j _).1, fun m hm => ?_, hbr.drew.setCell hgx _⟩
              rw [← HX.out m (by omega)]
              simp only [List.getD, List.getElem?_set]
              rw [if_neg (by omega)]
            case measure => simp [intOf]; omega
          · obtain rfl : j = n' := by omega
            go_wp2_with fail
            go_roundw
            case rel => exact ⟨i + 1, by omega, by go_num, .inr ⟨by omega, M7.past hbr, N7.past hbr⟩, L7.past hbr, hr7.past hbr, hb7.trans (hbr.mono hb7.size)⟩
            case measure => simp [intOf]; omega
      · obtain rfl : i = k := by omega
        go_wp2_with fail
        go_ret
        exact ⟨rfl, hb⟩
end Go.Proofs.Ythffglfckcickaa
