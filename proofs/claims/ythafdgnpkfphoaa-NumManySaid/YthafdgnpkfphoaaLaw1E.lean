/- The walk of NumMany. -/
import Derived.Test.YthafdgnpkfphoaaLaw1A
import Derived.Test.YthafdgnpkfphoaaPlainNumB
import Derived.Test.YthafdgnpkfphoaaKit2
namespace Go.Proofs.Ythafdgnpkfphoaa
open Go.RowKit

/-- The bytes of many numbers. -/
def many (l : List Int) : List Int := l.flatMap fun x => PNum.sev (PNum.zig x)
theorem many_snoc (l : List Int) (x : Int) : many (l ++ [x]) = many l ++ PNum.sev (PNum.zig x) := by simp [many]
theorem many_cons (l : List Int) (x : Int) : many (x :: l) = PNum.sev (PNum.zig x) ++ many l := by simp [many]
theorem many_isB (l : List Int) : isB (many l) := by
  intro c hc
  obtain ⟨x, _, hx⟩ := List.mem_flatMap.1 hc
  exact isB_sev _ c hx
theorem many_len (l : List Int) (h : ∀ x ∈ l, -9223372036854775808 ≤ x ∧ x ≤ 9223372036854775807) : (many l).length ≤ 10 * l.length := by
  induction l with
  | nil => simp [many]
  | cons x r ih =>
    rw [many_cons, List.length_append, List.length_cons]
    have hx := h x (List.mem_cons_self ..)
    have h1 := PNum.sev_ten _ (PNum.zig_lt x hx.1 hx.2)
    have h2 := ih fun y hy => h y (List.mem_cons_of_mem _ hy)
    omega
def isI (l : List Int) : Prop := ∀ x ∈ l, -9223372036854775808 ≤ x ∧ x ≤ 9223372036854775807
/-- 64-bit numbers, as cells. -/
def is64 (l : List Int) : List Value := l.map (Value.int .i64)
theorem is64_length (l : List Int) : (is64 l).length = l.length := by simp [is64]
theorem is64_take (l : List Int) (i : Nat) : is64 (l.take i) = (is64 l).take i := by simp [is64]

theorem Rd.num {w : World} {B : Nat} {A : Option Addr} {c n : Nat} {l : List Int} (h : Rd w B A c 1 n (is64 l)) {i : Nat} (hi : i < n) :
    ∃ b o x, A = some ⟨b, o, none⟩ ∧ w.cell? ⟨b, o + i, none⟩ = some (.int .i64 x) ∧ l.take (i + 1) = l.take i ++ [x] ∧ l.drop i = x :: l.drop (i + 1) ∧ x ∈ l := by
  have hl : i < l.length := by have := h.len; rw [is64_length] at this; omega
  obtain ⟨b, o, hA, _, hc⟩ := h.at_ hi
  refine ⟨b, o, l[i], hA, ?_, ?_, List.drop_eq_getElem_cons hl, List.getElem_mem hl⟩
  · rw [hc]; simp [is64, List.getD, List.getElem?_map, List.getElem?_eq_getElem hl]
  · rw [List.take_succ_eq_append_getElem hl]

theorem long_info : (Try.prog.info? 2).map (fun i => (i.zero, i.size, i.bytes)) = some (some (.int .i64 0), 1, 8) := by kernel_rfl

set_option maxRecDepth 100000 in
/-- Behind the cut to forty numbers. -/
theorem NumMany_w (w : World) (A : Option Addr) (c n : Nat) (l : List Int) (h : Rd w w.heap.size A c 1 n (is64 l)) (hI : isI l) :
    Calls Try.prog 6 #[.slice A n c] w fun e w' => e = .returned (.bool true) ∧ Below w.heap.size w w' := by
  by_cases hn : n ≤ 40
  · go_enter Try.func6, Try.ntmps6
    go_wp2_with fail
    refine (begun_c w).mono ?_
    rintro e w1 ⟨rfl, hb1⟩
    go_wp2_with fail
    have h1 := h.below hb1
    clear h
    go_loopw [4, 5] (fun s4 s5 wr => ∃ (A2 : Option Addr) (c2 i m : Nat), s4 = .slice A2 m c2 ∧ s5 = .int .i64 i ∧ i ≤ n ∧ m = (many (l.take i)).length ∧
        Rd wr wr.heap.size A2 c2 1 m (bs (many (l.take i))) ∧ Below w.heap.size w1 wr)
      (fun _ s5 _ => n - (intOf s5).toNat)
    case atStart => exact ⟨none, 0, 0, 0, rfl, rfl, by omega, by simp [many], by simpa [many, bs] using Rd.nil _ _ _, Below.refl _ _⟩
    case round =>
      obtain ⟨A2, c2, i, m, rfl, rfl, hi, hm, hr2, hbel⟩ := hrel
      have hsz1 := hb1.size
      have hsz : w.heap.size ≤ wr.heap.size := Nat.le_trans hsz1 hbel.size
      have hrl : Rd wr wr.heap.size A c 1 n (is64 l) := (h1.below hbel).more hsz
      by_cases hlt : i < n
      · obtain ⟨b, o, x, hA, hc, ht, hd, hx⟩ := hrl.num hlt
        have hml : m ≤ 400 := by
          have h1 := many_len (l.take i) (fun y hy => hI y (List.mem_of_mem_take hy))
          have h2 : (l.take i).length ≤ i := by rw [List.length_take]; omega
          omega
        have HX := Lib.hid (hI x hx); clear hx
        have HA := Lib.hid hA; have HT := Lib.hid ht; have HM := Lib.hid hm
        clear ht hd hm
        subst hA
        go_wp2_with fail
        refine (Put_c wr _ A2 c2 m _ x hr2 (by omega) HX.out.1 HX.out.2).mono ?_
        rintro e w2 ⟨A3, c3, rfl, hown3, hb3⟩
        go_wp2_with fail
        go_roundw
        case rel =>
          refine ⟨A3, c3, i + 1, _, rfl, by go_num, by omega, ?_, ?_, hbel.trans (hb3.mono hsz)⟩
          · rw [HT.out, many_snoc, List.length_append, ← HM.out]
          · rw [HT.out, many_snoc]; exact Rd.of_own hown3
        case measure => simp [intOf]; omega
      · obtain rfl : i = n := by omega
        clear hlt
        have htl : l.take i = l := List.take_of_length_le (by have := hrl.len; rw [is64_length] at this; omega)
        rw [htl] at hr2 hm
        clear htl
        have HM := Lib.hid hm; clear hm
        go_wp2_with fail
        go_loop [4, 6] (fun s4 s6 => ∃ (A3 : Option Addr) (c3 j m : Nat), s4 = .slice A3 m c3 ∧ s6 = .int .i64 j ∧ j ≤ i ∧ m = (many (l.drop j)).length ∧
            Rd wr wr.heap.size A3 c3 1 m (bs (many (l.drop j))))
          (fun _ s6 => i - (intOf s6).toNat)
        case atStart => exact ⟨A2, c2, 0, m, rfl, rfl, by omega, HM.out, hr2⟩
        case round =>
          obtain ⟨A3, c3, j, m3, rfl, rfl, hj, hm3, hr3⟩ := hrel
          clear hr2
          have HM3 := Lib.hid hm3; clear hm3
          by_cases hlt : j < i
          · obtain ⟨b, o, x, hA, hc, ht, hd, hx⟩ := hrl.num hlt
            have hX := hI x hx
            have gp := PNum.getB_put x (many (l.drop (j + 1))) hX.1 hX.2
            have hmd : many (l.drop j) = PNum.sev (PNum.zig x) ++ many (l.drop (j + 1)) := by rw [hd, many_cons]
            have hle : m3 = (PNum.sev (PNum.zig x)).length + (many (l.drop (j + 1))).length := by rw [HM3.out, hmd, List.length_append]
            have hk := PNum.sev_ten _ (PNum.zig_lt x hX.1 hX.2)
            have hBm : isB (many (l.drop j)) := many_isB _
            rw [hmd] at hr3 hBm
            have HD := Lib.hid hle
            clear ht hd hX hx hmd
            subst hA
            obtain ⟨k, hkk⟩ : ∃ k, (PNum.sev (PNum.zig x)).length = k := ⟨_, rfl⟩
            obtain ⟨q, hqq⟩ : ∃ q, (many (l.drop (j + 1))).length = q := ⟨_, rfl⟩
            rw [hkk] at gp hle hk
            rw [hqq] at hle
            subst hle
            have GP := Lib.hid gp; clear gp
            have HK := Lib.hid hkk; clear hkk
            have HQ := Lib.hid hqq; clear hqq
            go_wp2_with fail
            refine (Get_c wr _ A3 c3 (k + q) _ hr3 hBm).mono ?_
            rintro e w4 ⟨rfl, rfl⟩
            rw [GP.out]
            simp only [tup3]
            go_wp2_with (with_reducible show wpList _ _ _ ((⟨some 54, Op.slice 22 _ _ _ _, _, _, _, _⟩ : Oper) :: _) _ _
                         go_must (refine wpList_cutI rfl 22 (.tmp 52) _ _ rfl 5 _ 1 1 Try.underlying22 byte_info _ A3 c3 (k + q) _ rfl hr3 k (k + q) _ 0 (.inr ⟨rfl, rfl⟩) (.inl ⟨rfl, rfl⟩) (by omega) (by omega) ?_))
            intro A4 c4 hr4
            rw [← bs_drop, ← bs_take, ← HK.out, List.drop_left, ← HQ.out, List.take_length, HQ.out] at hr4
            go_wp2_with fail
            go_round
            case rel => exact ⟨A4, c4, j + 1, q, rfl, by go_num, by omega, HQ.out.symm, hr4⟩
            case measure => simp [intOf]; omega
          · obtain rfl : j = i := by omega
            clear hlt
            have e0 : (many (l.drop j)).length = 0 := by
              rw [List.drop_of_length_le (by have := hrl.len; rw [is64_length] at this; omega)]; rfl
            have hm0 : m3 = 0 := by rw [HM3.out, e0]
            subst hm0
            go_wp2_with fail
            go_ret
            exact ⟨rfl, hb1.trans hbel⟩
  · obtain ⟨n0, hn0⟩ : ∃ k : Nat, k = 40 := ⟨_, rfl⟩
    have HN0 := Lib.hid hn0; clear hn0
    go_enter Try.func6, Try.ntmps6
    go_wp2_with fail
    refine (begun_c w).mono ?_
    rintro e w1 ⟨rfl, hb1⟩
    go_wp2_with (with_reducible show wpList _ _ _ ((⟨some 17, Op.slice 38 _ _ _ _, _, _, _, _⟩ : Oper) :: _) _ _
                 go_must (refine wpList_cutI rfl 38 (.tmp 16) _ _ rfl 2 _ 1 8 Try.underlying38 long_info _ A c n _ rfl (h.below hb1) 0 n0 0 _ (.inl ⟨rfl, rfl⟩) (.inr ⟨rfl, by have := HN0.out; omega⟩) (by omega) (by have := HN0.out; omega) ?_))
    intro A0 c0 h1
    rw [← is64_take] at h1
    have hI0 : isI (l.take n0) := fun x hx => hI x (List.mem_of_mem_take hx)
    clear h hI
    generalize l.take n0 = l0 at *
    have hI := hI0
    clear hI0 hn
    have hn : n0 ≤ 40 := by have := HN0.out; omega
    go_wp2_with fail
    go_loopw [4, 5] (fun s4 s5 wr => ∃ (A2 : Option Addr) (c2 i m : Nat), s4 = .slice A2 m c2 ∧ s5 = .int .i64 i ∧ i ≤ n0 ∧ m = (many (l0.take i)).length ∧
        Rd wr wr.heap.size A2 c2 1 m (bs (many (l0.take i))) ∧ Below w.heap.size w1 wr)
      (fun _ s5 _ => n0 - (intOf s5).toNat)
    case atStart => exact ⟨none, 0, 0, 0, rfl, rfl, by omega, by simp [many], by simpa [many, bs] using Rd.nil _ _ _, Below.refl _ _⟩
    case round =>
      obtain ⟨A2, c2, i, m, rfl, rfl, hi, hm, hr2, hbel⟩ := hrel
      have hsz1 := hb1.size
      have hsz : w.heap.size ≤ wr.heap.size := Nat.le_trans hsz1 hbel.size
      have hrl : Rd wr wr.heap.size A0 c0 1 n0 (is64 l0) := (h1.below hbel).more hsz
      by_cases hlt : i < n0
      · obtain ⟨b, o, x, hA, hc, ht, hd, hx⟩ := hrl.num hlt
        have hml : m ≤ 400 := by
          have h1 := many_len (l0.take i) (fun y hy => hI y (List.mem_of_mem_take hy))
          have h2 : (l0.take i).length ≤ i := by rw [List.length_take]; omega
          omega
        have HX := Lib.hid (hI x hx); clear hx
        have HA := Lib.hid hA; have HT := Lib.hid ht; have HM := Lib.hid hm
        clear ht hd hm
        subst hA
        go_wp2_with fail
        refine (Put_c wr _ A2 c2 m _ x hr2 (by omega) HX.out.1 HX.out.2).mono ?_
        rintro e w2 ⟨A3, c3, rfl, hown3, hb3⟩
        go_wp2_with fail
        go_roundw
        case rel =>
          refine ⟨A3, c3, i + 1, _, rfl, by go_num, by omega, ?_, ?_, hbel.trans (hb3.mono hsz)⟩
          · rw [HT.out, many_snoc, List.length_append, ← HM.out]
          · rw [HT.out, many_snoc]; exact Rd.of_own hown3
        case measure => simp [intOf]; omega
      · obtain rfl : i = n0 := by omega
        clear hlt
        have htl : l0.take i = l0 := List.take_of_length_le (by have := hrl.len; rw [is64_length] at this; omega)
        rw [htl] at hr2 hm
        clear htl
        have HM := Lib.hid hm; clear hm
        go_wp2_with fail
        go_loop [4, 6] (fun s4 s6 => ∃ (A3 : Option Addr) (c3 j m : Nat), s4 = .slice A3 m c3 ∧ s6 = .int .i64 j ∧ j ≤ i ∧ m = (many (l0.drop j)).length ∧
            Rd wr wr.heap.size A3 c3 1 m (bs (many (l0.drop j))))
          (fun _ s6 => i - (intOf s6).toNat)
        case atStart => exact ⟨A2, c2, 0, m, rfl, rfl, by omega, HM.out, hr2⟩
        case round =>
          obtain ⟨A3, c3, j, m3, rfl, rfl, hj, hm3, hr3⟩ := hrel
          clear hr2
          have HM3 := Lib.hid hm3; clear hm3
          by_cases hlt : j < i
          · obtain ⟨b, o, x, hA, hc, ht, hd, hx⟩ := hrl.num hlt
            have hX := hI x hx
            have gp := PNum.getB_put x (many (l0.drop (j + 1))) hX.1 hX.2
            have hmd : many (l0.drop j) = PNum.sev (PNum.zig x) ++ many (l0.drop (j + 1)) := by rw [hd, many_cons]
            have hle : m3 = (PNum.sev (PNum.zig x)).length + (many (l0.drop (j + 1))).length := by rw [HM3.out, hmd, List.length_append]
            have hk := PNum.sev_ten _ (PNum.zig_lt x hX.1 hX.2)
            have hBm : isB (many (l0.drop j)) := many_isB _
            rw [hmd] at hr3 hBm
            have HD := Lib.hid hle
            clear ht hd hX hx hmd
            subst hA
            obtain ⟨k, hkk⟩ : ∃ k, (PNum.sev (PNum.zig x)).length = k := ⟨_, rfl⟩
            obtain ⟨q, hqq⟩ : ∃ q, (many (l0.drop (j + 1))).length = q := ⟨_, rfl⟩
            rw [hkk] at gp hle hk
            rw [hqq] at hle
            subst hle
            have GP := Lib.hid gp; clear gp
            have HK := Lib.hid hkk; clear hkk
            have HQ := Lib.hid hqq; clear hqq
            go_wp2_with fail
            refine (Get_c wr _ A3 c3 (k + q) _ hr3 hBm).mono ?_
            rintro e w4 ⟨rfl, rfl⟩
            rw [GP.out]
            simp only [tup3]
            go_wp2_with (with_reducible show wpList _ _ _ ((⟨some 54, Op.slice 22 _ _ _ _, _, _, _, _⟩ : Oper) :: _) _ _
                         go_must (refine wpList_cutI rfl 22 (.tmp 52) _ _ rfl 5 _ 1 1 Try.underlying22 byte_info _ A3 c3 (k + q) _ rfl hr3 k (k + q) _ 0 (.inr ⟨rfl, rfl⟩) (.inl ⟨rfl, rfl⟩) (by omega) (by omega) ?_))
            intro A4 c4 hr4
            rw [← bs_drop, ← bs_take, ← HK.out, List.drop_left, ← HQ.out, List.take_length, HQ.out] at hr4
            go_wp2_with fail
            go_round
            case rel => exact ⟨A4, c4, j + 1, q, rfl, by go_num, by omega, HQ.out.symm, hr4⟩
            case measure => simp [intOf]; omega
          · obtain rfl : j = i := by omega
            clear hlt
            have e0 : (many (l0.drop j)).length = 0 := by
              rw [List.drop_of_length_le (by have := hrl.len; rw [is64_length] at this; omega)]; rfl
            have hm0 : m3 = 0 := by rw [HM3.out, e0]
            subst hm0
            go_wp2_with fail
            go_ret
            exact ⟨rfl, hb1.trans hbel⟩

end Go.Proofs.Ythafdgnpkfphoaa
