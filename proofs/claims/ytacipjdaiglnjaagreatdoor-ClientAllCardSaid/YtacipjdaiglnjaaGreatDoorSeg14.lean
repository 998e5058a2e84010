/- Contracts of mayEntries and May. -/
import Derived.Test.YtacipjdaiglnjaaGreatDoorSeg13
import Derived.Test.YtacipjdaiglnjaaGreatDoorSeg4
namespace Go.Proofs.YtacipjdaiglnjaaGreatDoor
open Go.RowKit

/-- So few entries, each one that may be. -/
def mayEs (l : List Ent) : Bool := decide (l.length ≤ 60) && l.all PEnt.may
theorem mayEs_many {l : List Ent} (h : 60 < l.length) : mayEs l = false := by unfold mayEs; rw [decide_eq_false (by omega)]; rfl
theorem mayEs_bad {l : List Ent} {e : Ent} (hm : e ∈ l) (h : PEnt.may e = false) : mayEs l = false := by
  unfold mayEs
  have : l.all PEnt.may = false := by
    cases hq : l.all PEnt.may
    · rfl
    · have := List.all_eq_true.1 hq e hm; rw [h] at this; cases this
  rw [this, Bool.and_false]
theorem mayEs_good {l : List Ent} (h : l.length ≤ 60) (ha : l.all PEnt.may = true) : mayEs l = true := by unfold mayEs; rw [decide_eq_true h, ha]; rfl

set_option maxHeartbeats 1000000 in
set_option maxRecDepth 100000 in
theorem mayEs_c (w : World) (B : Nat) (A : Option Addr) (c n : Nat) (l : List Ent) (h : Rd w B A c 7 n (els l)) :
    Calls Tryz.prog 189 #[.slice A n c] w fun x w' => x = .returned (.bool (mayEs l)) ∧ Below w.heap.size w w' := by
  have R0 := Lib.hid h.tight
  have HLn := Lib.hid h.elen
  clear h
  by_cases h60 : 60 < n
  · have HM := Lib.hid (mayEs_many (l := l) (by rw [HLn.out]; exact h60))
    go_enter Tryz.func189, Tryz.ntmps189
    go_wp2_with fail
    go_ret
    exact ⟨by rw [HM.out]; rfl, Below.refl _ _⟩
  · go_enter Tryz.func189, Tryz.ntmps189
    go_wp2_with fail
    go_loopw [4, 10] (fun _ s10 wr => ∃ i : Nat, i ≤ n ∧ s10 = .int .i64 i ∧ Hid ((l.take i).all PEnt.may = true) ∧ Hid (Below w.heap.size w wr)) (fun _ s10 _ => n - (intOf s10).toNat)
    case atStart => exact ⟨0, by omega, rfl, Lib.hid (by simp), Lib.hid (Below.refl _ _)⟩
    case round =>
      obtain ⟨i, hi, rfl, HA, BL⟩ := hrel
      by_cases hlt : i < n
      · obtain ⟨b, o, e, rfl, -, he, hmem, d0, d1, d2, d3, d4, d5, d6⟩ := (R0.out.below BL.out).ent hlt
        have HE := Lib.hid he
        have HM := Lib.hid hmem
        clear he hmem
        go_wp2_with fail
        clear d0 d1 d2 d3 d4 d5 d6
        have b1 := (Below.refl wr.heap.size wr).alloc (Nat.le_refl _) (.cells #[.int .i64 e.fr, .int .i64 e.boot, .int .i64 e.seq, .int .i64 e.ord, .int .i64 e.lev, .int .i64 e.stamp, .string e.data] 93)
        generalize wr.alloc (.cells #[.int .i64 e.fr, .int .i64 e.boot, .int .i64 e.seq, .int .i64 e.ord, .int .i64 e.lev, .int .i64 e.stamp, .string e.data] 93) = w1 at *
        refine (May_c w1 e).mono ?_
        cases hy : PEnt.may e
        · have HB := Lib.hid (mayEs_bad HM.out hy)
          rintro x w2 ⟨rfl, b2⟩
          have B2 := Lib.hid ((BL.out.trans (b1.mono BL.out.size)).trans (b2.mono (Nat.le_trans BL.out.size b1.size)))
          clear b1 b2 hy
          go_wp2_with fail
          go_ret
          exact ⟨by rw [HB.out]; rfl, B2.out⟩
        · have HS1 := Lib.hid (show (l.take (i + 1)).all PEnt.may = true by rw [all_snoc HE.out, HA.out, hy]; rfl)
          rintro x w2 ⟨rfl, b2⟩
          have B2 := Lib.hid ((BL.out.trans (b1.mono BL.out.size)).trans (b2.mono (Nat.le_trans BL.out.size b1.size)))
          clear b1 b2 hy BL
          go_wp2_with fail
          go_roundw
          case rel => exact ⟨i + 1, by omega, by go_num, HS1, B2⟩
          case measure => simp [intOf]; omega
      · obtain rfl : i = n := by omega
        have ht : l.take i = l := List.take_of_length_le (by rw [HLn.out]; omega)
        rw [ht] at HA
        have HM := Lib.hid (mayEs_good (l := l) (by rw [HLn.out]; omega) HA.out)
        clear ht
        go_wp2_with fail
        go_ret
        exact ⟨by rw [HM.out]; rfl, BL.out⟩

theorem may7 (t : Int) : PTeam.may t 7 = decide (0 ≤ t ∧ t ≤ 127) := by
  unfold PTeam.may
  have h1 : decide ((3 : Int) ≤ 7 ∧ (7 : Int) ≤ 7) = true := by decide
  have h2 : (2 : Int) ^ (7 : Int).toNat = 128 := by decide
  rw [h1, h2, Bool.true_and, Bool.eq_iff_iff, decide_eq_true_eq, decide_eq_true_eq]
  omega

/-- May of a message of which all but the entries is said. -/
theorem may_rest {m : Msg} (h0 : 1 ≤ m.kind ∧ m.kind ≤ 13) (h1 : 1 ≤ m.fr ∧ m.fr ≤ 7) (h2 : 1 ≤ m.dst ∧ m.dst ≤ 7) (h3 : m.fr ≠ m.dst) (h4 : 1 ≤ m.boot ∧ m.boot ≤ 1099511627776) (h5 : 0 ≤ m.view ∧ m.view ≤ 1099511627776) (h6 : 0 ≤ m.last ∧ m.last ≤ 1099511627776)
    (h7 : 0 ≤ m.mem ∧ m.mem ≤ 127) (h8 : 0 ≤ m.pos ∧ m.pos ≤ 60) (h9 : 0 ≤ m.com ∧ m.com ≤ 60) (h10 : 0 ≤ m.num ∧ m.num ≤ 1099511627776) (h11 : 0 ≤ m.clk ∧ m.clk ≤ 1099511627776) : PMsg.may m = mayEs m.es := by
  rw [Bool.eq_iff_iff, PMsg.may_iff]
  unfold mayEs
  rw [Bool.and_eq_true, decide_eq_true_eq]
  exact ⟨fun h => h.2.2.2.2.2.2.2.2.2.2.2.2, fun h => ⟨h0, h1, h2, h3, h4, h5, h6, h7, h8, h9, h10, h11, h⟩⟩

set_option maxHeartbeats 4000000 in
set_option maxRecDepth 100000 in
theorem wMay_c (w : World) (m : Msg) (A : Option Addr) (c : Nat) (h : Rd w w.heap.size A c 7 m.es.length (els m.es)) (hm : -9223372036854775808 ≤ m.mem ∧ m.mem ≤ 9223372036854775807) :
    Calls Tryz.prog 141 #[mv m A c] w fun x w' => x = .returned (.bool (PMsg.may m)) ∧ Below w.heap.size w w' := by
  obtain ⟨kind, fr, dst, boot, view, last, mem, pos, es, com, num, clk, yes⟩ := m
  have R0 := Lib.hid h
  have HM7 := Lib.hid hm
  have W1 := Lib.hid ((Below.refl w.heap.size w).alloc (Nat.le_refl _) (.cells #[.int .i64 kind, .int .i64 fr, .int .i64 dst, .int .i64 boot, .int .i64 view, .int .i64 last, .int .i64 mem, .int .i64 pos, .slice A es.length c, .int .i64 com, .int .i64 num, .int .i64 clk, .bool yes] 31))
  clear h hm
  show Calls _ _ #[.agg #[.int .i64 kind, .int .i64 fr, .int .i64 dst, .int .i64 boot, .int .i64 view, .int .i64 last, .int .i64 mem, .int .i64 pos, .slice A es.length c, .int .i64 com, .int .i64 num, .int .i64 clk, .bool yes]] _ _
  go_enter Tryz.func141, Tryz.ntmps141
  go_wp2_with fail
  refine (wIsIn_c _ kind 1 13).mono ?_
  cases hD : decide (1 ≤ kind ∧ kind ≤ 13)
  · have HN := Lib.hid (show PMsg.may ⟨kind, fr, dst, boot, view, last, mem, pos, es, com, num, clk, yes⟩ = false from PMsg.may_no.2 fun h => of_decide_eq_false hD h.1)
    clear hD
    rintro x wx ⟨rfl, rfl⟩
    go_wp2_with fail
    go_ret
    exact ⟨by rw [HN.out]; rfl, W1.out⟩
  have H0 := Lib.hid (of_decide_eq_true hD)
  clear hD
  rintro x wx ⟨rfl, rfl⟩
  go_wp2_with fail
  refine (wIsIn_c _ fr 1 7).mono ?_
  cases hD : decide (1 ≤ fr ∧ fr ≤ 7)
  · have HN := Lib.hid (show PMsg.may ⟨kind, fr, dst, boot, view, last, mem, pos, es, com, num, clk, yes⟩ = false from PMsg.may_no.2 fun h => of_decide_eq_false hD h.2.1)
    clear hD
    rintro x wx ⟨rfl, rfl⟩
    go_wp2_with fail
    go_ret
    exact ⟨by rw [HN.out]; rfl, W1.out⟩
  have H1 := Lib.hid (of_decide_eq_true hD)
  clear hD
  rintro x wx ⟨rfl, rfl⟩
  go_wp2_with fail
  refine (wIsIn_c _ dst 1 7).mono ?_
  cases hD : decide (1 ≤ dst ∧ dst ≤ 7)
  · have HN := Lib.hid (show PMsg.may ⟨kind, fr, dst, boot, view, last, mem, pos, es, com, num, clk, yes⟩ = false from PMsg.may_no.2 fun h => of_decide_eq_false hD h.2.2.1)
    clear hD
    rintro x wx ⟨rfl, rfl⟩
    go_wp2_with fail
    go_ret
    exact ⟨by rw [HN.out]; rfl, W1.out⟩
  have H2 := Lib.hid (of_decide_eq_true hD)
  clear hD
  rintro x wx ⟨rfl, rfl⟩
  cases hq : (fr != dst)
  case false =>
    have HN := Lib.hid (show PMsg.may ⟨kind, fr, dst, boot, view, last, mem, pos, es, com, num, clk, yes⟩ = false from PMsg.may_no.2 fun h => h.2.2.2.1 (by simpa using hq))
    go_wp2_with fail
    go_ret
    exact ⟨by rw [HN.out]; rfl, W1.out⟩
  case true =>
  have H3 := Lib.hid (show fr ≠ dst by simpa using hq)
  go_wp2_with fail
  clear hq
  refine (wIsIn_c _ boot 1 1099511627776).mono ?_
  cases hD : decide (1 ≤ boot ∧ boot ≤ 1099511627776)
  · have HN := Lib.hid (show PMsg.may ⟨kind, fr, dst, boot, view, last, mem, pos, es, com, num, clk, yes⟩ = false from PMsg.may_no.2 fun h => of_decide_eq_false hD h.2.2.2.2.1)
    clear hD
    rintro x wx ⟨rfl, rfl⟩
    go_wp2_with fail
    go_ret
    exact ⟨by rw [HN.out]; rfl, W1.out⟩
  have H4 := Lib.hid (of_decide_eq_true hD)
  clear hD
  rintro x wx ⟨rfl, rfl⟩
  go_wp2_with fail
  refine (wIsIn_c _ view 0 1099511627776).mono ?_
  cases hD : decide (0 ≤ view ∧ view ≤ 1099511627776)
  · have HN := Lib.hid (show PMsg.may ⟨kind, fr, dst, boot, view, last, mem, pos, es, com, num, clk, yes⟩ = false from PMsg.may_no.2 fun h => of_decide_eq_false hD h.2.2.2.2.2.1)
    clear hD
    rintro x wx ⟨rfl, rfl⟩
    go_wp2_with fail
    go_ret
    exact ⟨by rw [HN.out]; rfl, W1.out⟩
  have H5 := Lib.hid (of_decide_eq_true hD)
  clear hD
  rintro x wx ⟨rfl, rfl⟩
  go_wp2_with fail
  refine (wIsIn_c _ last 0 1099511627776).mono ?_
  cases hD : decide (0 ≤ last ∧ last ≤ 1099511627776)
  · have HN := Lib.hid (show PMsg.may ⟨kind, fr, dst, boot, view, last, mem, pos, es, com, num, clk, yes⟩ = false from PMsg.may_no.2 fun h => of_decide_eq_false hD h.2.2.2.2.2.2.1)
    clear hD
    rintro x wx ⟨rfl, rfl⟩
    go_wp2_with fail
    go_ret
    exact ⟨by rw [HN.out]; rfl, W1.out⟩
  have H6 := Lib.hid (of_decide_eq_true hD)
  clear hD
  rintro x wx ⟨rfl, rfl⟩
  go_wp2_with fail
  refine (tMay_c _ mem 7 HM7.out.1 HM7.out.2).mono ?_
  rw [may7]
  cases hD : decide (0 ≤ mem ∧ mem ≤ 127)
  · have HN := Lib.hid (show PMsg.may ⟨kind, fr, dst, boot, view, last, mem, pos, es, com, num, clk, yes⟩ = false from PMsg.may_no.2 fun h => of_decide_eq_false hD h.2.2.2.2.2.2.2.1)
    clear hD
    rintro x wx ⟨rfl, rfl⟩
    go_wp2_with fail
    go_ret
    exact ⟨by rw [HN.out]; rfl, W1.out⟩
  have H7 := Lib.hid (of_decide_eq_true hD)
  clear hD
  rintro x wx ⟨rfl, rfl⟩
  go_wp2_with fail
  refine (wIsIn_c _ pos 0 60).mono ?_
  cases hD : decide (0 ≤ pos ∧ pos ≤ 60)
  · have HN := Lib.hid (show PMsg.may ⟨kind, fr, dst, boot, view, last, mem, pos, es, com, num, clk, yes⟩ = false from PMsg.may_no.2 fun h => of_decide_eq_false hD h.2.2.2.2.2.2.2.2.1)
    clear hD
    rintro x wx ⟨rfl, rfl⟩
    go_wp2_with fail
    go_ret
    exact ⟨by rw [HN.out]; rfl, W1.out⟩
  have H8 := Lib.hid (of_decide_eq_true hD)
  clear hD
  rintro x wx ⟨rfl, rfl⟩
  go_wp2_with fail
  refine (wIsIn_c _ com 0 60).mono ?_
  cases hD : decide (0 ≤ com ∧ com ≤ 60)
  · have HN := Lib.hid (show PMsg.may ⟨kind, fr, dst, boot, view, last, mem, pos, es, com, num, clk, yes⟩ = false from PMsg.may_no.2 fun h => of_decide_eq_false hD h.2.2.2.2.2.2.2.2.2.1)
    clear hD
    rintro x wx ⟨rfl, rfl⟩
    go_wp2_with fail
    go_ret
    exact ⟨by rw [HN.out]; rfl, W1.out⟩
  have H9 := Lib.hid (of_decide_eq_true hD)
  clear hD
  rintro x wx ⟨rfl, rfl⟩
  go_wp2_with fail
  refine (wIsIn_c _ num 0 1099511627776).mono ?_
  cases hD : decide (0 ≤ num ∧ num ≤ 1099511627776)
  · have HN := Lib.hid (show PMsg.may ⟨kind, fr, dst, boot, view, last, mem, pos, es, com, num, clk, yes⟩ = false from PMsg.may_no.2 fun h => of_decide_eq_false hD h.2.2.2.2.2.2.2.2.2.2.1)
    clear hD
    rintro x wx ⟨rfl, rfl⟩
    go_wp2_with fail
    go_ret
    exact ⟨by rw [HN.out]; rfl, W1.out⟩
  have H10 := Lib.hid (of_decide_eq_true hD)
  clear hD
  rintro x wx ⟨rfl, rfl⟩
  go_wp2_with fail
  refine (wIsIn_c _ clk 0 1099511627776).mono ?_
  cases hD : decide (0 ≤ clk ∧ clk ≤ 1099511627776)
  · have HN := Lib.hid (show PMsg.may ⟨kind, fr, dst, boot, view, last, mem, pos, es, com, num, clk, yes⟩ = false from PMsg.may_no.2 fun h => of_decide_eq_false hD h.2.2.2.2.2.2.2.2.2.2.2.1)
    clear hD
    rintro x wx ⟨rfl, rfl⟩
    go_wp2_with fail
    go_ret
    exact ⟨by rw [HN.out]; rfl, W1.out⟩
  have H11 := Lib.hid (of_decide_eq_true hD)
  clear hD
  rintro x wx ⟨rfl, rfl⟩
  go_wp2_with fail
  have HE := Lib.hid (may_rest (m := ⟨kind, fr, dst, boot, view, last, mem, pos, es, com, num, clk, yes⟩) H0.out H1.out H2.out H3.out H4.out H5.out H6.out H7.out H8.out H9.out H10.out H11.out)
  refine (mayEs_c _ _ A c es.length es (R0.out.past W1.out)).mono ?_
  generalize mayEs es = b at *
  rintro x w2 ⟨rfl, b2⟩
  have B2 := Lib.hid (W1.out.trans (b2.mono W1.out.size))
  clear b2
  cases b
  all_goals
    go_wp2_with fail
    go_ret
    exact ⟨by rw [HE.out]; rfl, B2.out⟩

theorem rNum_c (w : World) (n : Int) : Calls Tryz.prog 102 #[.int .i64 n] w fun e w' => e = .returned (.bool (decide (0 ≤ n ∧ n ≤ 1099511627776))) ∧ w = w' := by
  obtain ⟨r, HR⟩ : ∃ r, decide (0 ≤ n ∧ n ≤ 1099511627776) = r := ⟨_, rfl⟩
  rw [HR]
  by_cases h1 : 0 ≤ n
  · by_cases h2 : n ≤ 1099511627776
    · have H := Lib.hid (HR.symm.trans (decide_eq_true (And.intro h1 h2)))
      clear HR
      go_enter Tryz.func102, Tryz.ntmps102
      go_wp2
      go_ret
      exact ⟨by rw [H.out]; rfl, rfl⟩
    · have H := Lib.hid (HR.symm.trans (decide_eq_false (fun h : 0 ≤ n ∧ n ≤ 1099511627776 => h2 h.2)))
      clear HR
      go_enter Tryz.func102, Tryz.ntmps102
      go_wp2
      go_ret
      exact ⟨by rw [H.out]; rfl, rfl⟩
  · have H := Lib.hid (HR.symm.trans (decide_eq_false (fun h : 0 ≤ n ∧ n ≤ 1099511627776 => h1 h.1)))
    clear HR
    go_enter Tryz.func102, Tryz.ntmps102
    go_wp2
    go_ret
    exact ⟨by rw [H.out]; rfl, rfl⟩
end Go.Proofs.YtacipjdaiglnjaaGreatDoor

