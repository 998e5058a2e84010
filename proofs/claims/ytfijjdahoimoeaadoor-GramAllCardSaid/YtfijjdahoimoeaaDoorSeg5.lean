/- The zero entry; an entry's cells in the program. -/
import Derived.Test.YtfijjdahoimoeaaDoorRows
import Derived.Test.YtfijjdahoimoeaaDoorSeg2
import Derived.Test.YtfijjdahoimoeaaDoorSeg1
import Derived.Lib.Zigzag
import Derived.Deep.DeepMust
import Derived.Laws.BitsAllLaws
import Derived.Test.YtfijjdahoimoeaaDoorSeg4
import Derived.ArgAppend
import Derived.Deep.Upon
import Derived.Laws.StructEq
namespace Go.Proofs.YtfijjdahoimoeaaDoor
open Go.RowKit

/-- No entry: all zero. -/
def zeroE : Ent := ⟨0, 0, 0, 0, 0, 0, ⟨#[]⟩⟩
theorem ent_info : (Tryd.prog.info? 70).map (fun i => (i.zero, i.size, i.bytes)) = some (some (ev zeroE), 7, 64) := by kernel_rfl

end Go.Proofs.YtfijjdahoimoeaaDoor

/- One byte of a number. -/
namespace Go.Proofs.YtfijjdahoimoeaaDoor
open Go.RowKit

theorem seven_byte (u : Nat) : bits BinOp.or IntKind.u8 ((u : Int) % 256) 128 = ((u % 128 + 128 : Nat) : Int) := by
  rw [u8_or _ _ (by omega) (by omega) (by omega) (by omega)]
  have e : ((u : Int) % 256).toNat = u % 256 := by omega
  rw [e, show (128 : Int).toNat = 128 from rfl]
  have h := Nat.or_comm
  by_cases hb : u % 256 < 128
  · rw [h, nat_join7 128 (u % 256) (by decide) hb]; omega
  · have e2 : u % 256 = 128 + u % 128 := by omega
    have e3 : (128 + u % 128) = (128 ||| u % 128) := (nat_join7 128 (u % 128) (by decide) (by omega)).symm
    rw [e2, e3, h, ← Nat.or_assoc, Nat.or_self, ← e3]; omega
end Go.Proofs.YtfijjdahoimoeaaDoor

/- Contract of unfold. -/
namespace Go.Proofs.YtfijjdahoimoeaaDoor
open Go.RowKit

theorem unfold_c (u : Nat) (w : World) (h2 : u < 18446744073709551616) :
    Calls Tryd.prog 63 #[.int .u64 u] w fun e w' => e = .returned (.int .i64 (PNum.unzig u)) ∧ w = w' := by
  have key : bits BinOp.xor IntKind.i64 ((u : Int) / 2) (wrap64 (-wrap64 (bits BinOp.and IntKind.u64 (↑u) 1))) = PNum.unzig u := by
    rw [Lib.u64_and1 _ (by omega) (by omega)]
    by_cases hn : u % 2 = 0
    · have e : (u : Int) % 2 = 0 := by omega
      have e1 : ((u : Int) / 2) = ((u / 2 : Nat) : Int) := by omega
      rw [e, e1, show wrap64 (-wrap64 0) = 0 from by unfold wrap64; decide]
      unfold PNum.unzig; rw [if_pos hn]
      show IntKind.i64.wrap ((BitVec.ofInt 64 ((u / 2 : Nat) : Int) ^^^ BitVec.ofInt 64 0).toNat : Int) = _
      have h2 : (BitVec.ofInt 64 ((u / 2 : Nat) : Int)).toNat = u / 2 := by
        rw [BitVec.ofInt_natCast, BitVec.toNat_ofNat]; exact Nat.mod_eq_of_lt (by omega)
      have h3 : (BitVec.ofInt 64 0).toNat = 0 := by decide
      rw [BitVec.toNat_xor, h2, h3, Nat.xor_zero, IntKind.wrap_i64]; omega
    · have e : (u : Int) % 2 = 1 := by omega
      have e1 : ((u : Int) / 2) = ((u / 2 : Nat) : Int) := by omega
      have e2 : wrap64 (-wrap64 1) = -1 := by unfold wrap64; decide
      rw [e, e1, e2]
      unfold PNum.unzig; rw [if_neg hn]
      have := Lib.i64_not (u / 2) (by omega)
      rw [← this]
      show IntKind.i64.wrap ((BitVec.ofInt 64 ((u / 2 : Nat) : Int) ^^^ BitVec.ofInt 64 (-1)).toNat : Int) = IntKind.i64.wrap ((BitVec.ofInt 64 (-1) ^^^ BitVec.ofInt 64 ((u / 2 : Nat) : Int)).toNat : Int)
      rw [BitVec.xor_comm]
  have K := Lib.hid key; clear key
  go_enter Tryd.func63, Tryd.ntmps63
  go_wp2
  go_ret
  exact ⟨congrArg (fun x => Ending.returned (.int .i64 x)) K.out, rfl⟩

end Go.Proofs.YtfijjdahoimoeaaDoor

/- Contract of num.Get. -/
namespace Go.Proofs.YtfijjdahoimoeaaDoor
open Go.RowKit

/-- A number, how many bytes, an error, as Go hands them back. -/
def tup3 (r : Int × Int × Int) : Value := .tuple #[.int .i64 r.1, .int .i64 r.2.1, .int .i64 r.2.2]

theorem and_lo (x : Int) (h0 : 0 ≤ x) (h : x < 128) : bits BinOp.and IntKind.u8 x 128 = 0 := by
  rw [u8_and _ _ h0 (by omega) (by omega) (by omega), show (128 : Int).toNat = 128 from rfl, nat_bit7]; omega
theorem and_hi (x : Int) (h0 : 128 ≤ x) (h : x < 256) : bits BinOp.and IntKind.u8 x 128 = 128 := by
  rw [u8_and _ _ (by omega) h (by omega) (by omega), show (128 : Int).toNat = 128 from rfl, nat_bit7]; omega
theorem andNot_ (x : Int) (h0 : 0 ≤ x) (h : x < 256) : bits BinOp.andNot IntKind.u8 x 128 = ((x.toNat % 128 : Nat) : Int) := by
  rw [u8_andNot _ _ h0 h (by omega) (by omega), show (255 - (128 : Int).toNat) = 127 from rfl, nat_mask7]
theorem gather (acc i : Nat) (x : Int) (h0 : 0 ≤ x) (h : x < 256) (hi : i ≤ 9) (ha : acc < 128 ^ i) (hb : (x.toNat % 128) * 128 ^ i < 18446744073709551616) :
    bits BinOp.or IntKind.u64 (acc : Int) (IntKind.u64.wrap (IntKind.u64.wrap (bits BinOp.andNot IntKind.u8 x 128) * 2 ^ (7 * i))) = ((acc + (x.toNat % 128) * 128 ^ i : Nat) : Int) := by
  rw [andNot_ x h0 h]
  have hy : x.toNat % 128 < 128 := Nat.mod_lt _ (by decide)
  generalize x.toNat % 128 = y at hb hy
  have e : (2 : Nat) ^ (7 * i) = 128 ^ i := by rw [Nat.pow_mul]
  have h9 : (128 : Nat) ^ i ≤ 128 ^ 9 := Nat.pow_le_pow_right (by decide) hi
  have h99 : (128 : Nat) ^ 9 = 9223372036854775808 := by decide
  have e1 : IntKind.u64.wrap (y : Int) = y := by rw [IntKind.wrap_u64]; omega
  have e2 : (y : Int) * 2 ^ (7 * i) = ((y * 128 ^ i : Nat) : Int) := by rw [← e]; push_cast; rfl
  have e3 : IntKind.u64.wrap ((y * 128 ^ i : Nat) : Int) = ((y * 128 ^ i : Nat) : Int) := by rw [IntKind.wrap_u64]; omega
  rw [e1, e2, e3, u64_or_nat _ _ (by omega) hb, Nat.or_comm, nat_join (7 * i) _ _ (by rw [e]; exact Nat.mul_mod_left _ _) (by rw [e]; exact ha), Nat.add_comm]

theorem acc_next (acc i : Nat) (x : Int) (ha : acc < 128 ^ i) : acc + (x.toNat % 128) * 128 ^ i < 128 ^ (i + 1) := by
  have hy : x.toNat % 128 < 128 := Nat.mod_lt _ (by decide)
  rw [Nat.pow_succ]
  have := Nat.mul_le_mul_right (128 ^ i) (Nat.le_of_lt_succ hy : x.toNat % 128 ≤ 127)
  omega
theorem room (i : Nat) (x : Int) (hi : i ≤ 9) (h9 : ¬ (i = 9 ∧ 1 < x)) : (x.toNat % 128) * 128 ^ i < 18446744073709551616 := by
  have hy : x.toNat % 128 < 128 := Nat.mod_lt _ (by decide)
  by_cases e : i = 9
  · subst e
    have : x.toNat % 128 ≤ 1 := by omega
    have := Nat.mul_le_mul_right (128 ^ 9) this
    omega
  · have h8 : (128 : Nat) ^ i ≤ 128 ^ 8 := Nat.pow_le_pow_right (by decide) (by omega)
    have := Nat.mul_le_mul (Nat.le_of_lt_succ hy : x.toNat % 128 ≤ 127) h8
    omega

theorem accU (acc i : Nat) (x : Int) (hi : i ≤ 9) (h9 : ¬ (i = 9 ∧ 1 < x)) (ha : acc < 128 ^ i) : acc + (x.toNat % 128) * 128 ^ i < 18446744073709551616 := by
  by_cases e : i = 9
  · subst e
    have : x.toNat % 128 ≤ 1 := by omega
    have := Nat.mul_le_mul_right (128 ^ 9) this
    omega
  · have := acc_next acc i x ha
    have h8 : (128 : Nat) ^ (i + 1) ≤ 128 ^ 9 := Nat.pow_le_pow_right (by decide) (by omega)
    omega

set_option maxRecDepth 100000 in
theorem Get_c (w : World) (B : Nat) (A : Option Addr) (c n : Nat) (l : List Int) (h : Rd w B A c 1 n (bs l)) (hb : isB l) :
    Calls Tryd.prog 52 #[.slice A n c] w fun e w' => e = .returned (tup3 (PNum.getB 0 0 l)) ∧ w = w' := by
  have hlen := h.blen
  have HL := Lib.hid hlen; clear hlen
  have hm := h.le
  have hm2 := h.cap
  have hn : n ≤ 9223372036854775807 := by unfold maxLen at hm2; omega
  clear hm hm2
  go_enter Tryd.func52, Tryd.ntmps52
  go_wp2
  go_loop [5, 10] (fun s5 s10 => ∃ (i acc : Nat), s5 = .int .u64 acc ∧ s10 = .int .i64 i ∧ i ≤ n ∧ i ≤ 9 ∧ acc < 128 ^ i ∧ PNum.getB i acc (l.drop i) = PNum.getB 0 0 l)
    (fun _ s10 => n - (intOf s10).toNat)
  case atStart => exact ⟨0, 0, rfl, rfl, by omega, by omega, by decide, rfl⟩
  case round =>
    obtain ⟨i, acc, rfl, rfl, hi, hi9, hacc, hg⟩ := hrel
    have HG := Lib.hid hg; clear hg
    have HA := Lib.hid hacc; clear hacc
    by_cases hlt : i < n
    · obtain ⟨b, o, x, rfl, hc, hd, hx0, hx1, hxl⟩ := h.byte hb hlt
      clear hxl
      have HD := Lib.hid hd; clear hd
      by_cases h9 : i = 9 ∧ 1 < x
      · obtain ⟨rfl, h1⟩ := h9
        go_wp2
        go_ret3
        refine ⟨?_, rfl⟩
        rw [← HG.out, HD.out, PNum.getB, if_pos ⟨rfl, h1⟩]; rfl
      · have HJ := Lib.hid h9
        have hj := gather acc i x hx0 hx1 hi9 HA.out (room i x hi9 h9)
        by_cases h128 : x < 128
        · have hz := and_lo x hx0 h128
          have hU := accU acc i x hi9 h9 HA.out
          have HU := Lib.hid hU; clear hU h9
          by_cases h0 : x = 0 ∧ 0 < i
          · obtain ⟨rfl, h1⟩ := h0
            by_cases e9 : i = 9
            · have t9 : ((i : Int) == 9) = true := by simp; omega
              have E9 := Lib.hid e9; clear e9
              go_wp2
              go_ret3
              refine ⟨?_, rfl⟩
              rw [← HG.out, HD.out, PNum.getB, if_neg (by omega), if_pos (by omega), if_pos ⟨rfl, h1⟩]; rfl
            · have t9 : ((i : Int) == 9) = false := by simp; omega
              go_wp2
              go_ret3
              refine ⟨?_, rfl⟩
              rw [← HG.out, HD.out, PNum.getB, if_neg (by omega), if_pos (by omega), if_pos ⟨rfl, h1⟩]; rfl
          · have fin : PNum.getB 0 0 l = (PNum.unzig (acc + x.toNat % 128 * 128 ^ i), (i : Int) + 1, 0) := by
              rw [← HG.out, HD.out, PNum.getB, if_neg HJ.out, if_pos h128, if_neg h0]
              have : x.toNat % 128 = x.toNat := by omega
              rw [this]
            have FIN := Lib.hid fin; clear fin
            generalize acc + x.toNat % 128 * 128 ^ i = U at *
            by_cases e9 : i = 9
            · have t9 : ((i : Int) == 9) = true := by simp; omega
              have hx : ¬ 1 < x := by have := HJ.out; omega
              have E9 := Lib.hid e9; clear e9
              have t0 : (x == 0) = false := by have := E9.out; simp; omega
              go_wp2_with fail
              refine (unfold_c U w HU.out).mono ?_
              rintro e w' ⟨rfl, rfl⟩
              go_wp2
              go_ret3
              exact ⟨by rw [FIN.out]; rfl, rfl⟩
            · have t9 : ((i : Int) == 9) = false := by simp; omega
              by_cases e0 : x = 0
              · have t0 : (x == 0) = true := by simp; omega
                have i0 : ¬ 0 < i := by omega
                have E0 := Lib.hid e0; clear e0 h0
                go_wp2_with fail
                refine (unfold_c U w HU.out).mono ?_
                rintro e w' ⟨rfl, rfl⟩
                go_wp2
                go_ret3
                exact ⟨by rw [FIN.out]; rfl, rfl⟩
              · have t0 : (x == 0) = false := by simp; omega
                clear h0
                go_wp2_with fail
                refine (unfold_c U w HU.out).mono ?_
                rintro e w' ⟨rfl, rfl⟩
                go_wp2
                go_ret3
                exact ⟨by rw [FIN.out]; rfl, rfl⟩
        · have hz := and_hi x (by omega) hx1
          have t9 : ((i : Int) == 9) = false := by simp; omega
          have nxt := acc_next acc i x HA.out
          have fin : PNum.getB (i + 1) (acc + x.toNat % 128 * 128 ^ i) (l.drop (i + 1)) = PNum.getB 0 0 l := by
            rw [← HG.out, HD.out, PNum.getB, if_neg h9, if_neg h128]
            have : x.toNat % 128 = x.toNat - 128 := by omega
            rw [this]
          have FIN := Lib.hid fin; clear fin
          have NXT := Lib.hid nxt; clear nxt h9
          generalize acc + x.toNat % 128 * 128 ^ i = U at *
          go_wp2
          go_round
          case rel => exact ⟨i + 1, U, rfl, by go_num, by omega, by have := HJ.out; omega, NXT.out, FIN.out⟩
          case measure => simp [intOf]; omega
    · go_wp2
      go_ret3
      refine ⟨?_, rfl⟩
      have h1 := HG.out
      rw [List.drop_of_length_le (by have := HL.out; omega)] at h1
      rw [← h1]; rfl

end Go.Proofs.YtfijjdahoimoeaaDoor

/- Contract of num.GetText. -/
namespace Go.Proofs.YtfijjdahoimoeaaDoor
open Go.RowKit

/-- A text, how many bytes, an error, as Go hands them back. -/
def tupT (r : List Int × Int × Int) : Value := .tuple #[.string (strOfNums r.1), .int .i64 r.2.1, .int .i64 r.2.2]
theorem str_nil : strOfNums [] = ⟨#[]⟩ := rfl

set_option maxRecDepth 100000 in
theorem GetText_c (w : World) (B : Nat) (A : Option Addr) (c n : Nat) (l : List Int) (h : Rd w B A c 1 n (bs l)) (hb : isB l) (hn : n ≤ 1000000000000) :
    Calls Tryd.prog 64 #[.slice A n c] w fun e w' => e = .returned (tupT (PNum.getT l)) ∧ w = w' := by
  have hlen := h.blen
  have hle := h.le
  have hcap := h.cap
  have HN := Lib.hid hn; clear hn
  have HL := Lib.hid hlen; clear hlen
  have HC := Lib.hid hcap; clear hcap
  have herr := PNum.getB_err l 0 0
  have hok := PNum.getB_ok l 0 0
  obtain ⟨⟨x, k, er⟩, hg⟩ : ∃ r, PNum.getB 0 0 l = r := ⟨_, rfl⟩
  rw [hg] at herr hok
  have HG := Lib.hid hg; clear hg
  by_cases h0 : er = 0
  · subst h0
    obtain ⟨hx1, hx2, hk1, hk2⟩ := hok x k hb (by omega) (by decide) rfl
    clear hok herr
    have hX := Lib.hid (And.intro hx1 hx2); clear hx1 hx2
    rw [HL.out] at hk2
    simp at hk1 hk2
    by_cases hneg : x < 0
    · go_enter Tryd.func64, Tryd.ntmps64
      go_wp2_with fail
      refine (Get_c w B A c n l h hb).mono ?_
      rintro e w' ⟨rfl, rfl⟩
      rw [HG.out]
      simp only [tup3]
      go_wp2
      go_ret3
      refine ⟨?_, rfl⟩
      rw [PNum.getT, HG.out, if_pos rfl, if_pos (.inl hneg)]; rfl
    · by_cases hbig : 65536 < x
      · go_enter Tryd.func64, Tryd.ntmps64
        go_wp2_with fail
        refine (Get_c w B A c n l h hb).mono ?_
        rintro e w' ⟨rfl, rfl⟩
        rw [HG.out]
        simp only [tup3]
        go_wp2
        go_ret3
        refine ⟨?_, rfl⟩
        rw [PNum.getT, HG.out, if_pos rfl, if_pos (.inr hbig)]; rfl
      · by_cases hlong : (n : Int) < k + x
        · go_enter Tryd.func64, Tryd.ntmps64
          go_wp2_with fail
          refine (Get_c w B A c n l h hb).mono ?_
          rintro e w' ⟨rfl, rfl⟩
          rw [HG.out]
          simp only [tup3]
          have hn := HN.out
          go_wp2
          go_ret3
          refine ⟨?_, rfl⟩
          rw [PNum.getT, HG.out, if_pos rfl, if_neg (by simp; omega), if_pos (by rw [HL.out]; exact hlong)]; rfl
        · obtain ⟨xn, rfl⟩ := Int.eq_ofNat_of_zero_le (show 0 ≤ x by omega)
          obtain ⟨kn, rfl⟩ := Int.eq_ofNat_of_zero_le (show 0 ≤ k by omega)
          have hn := HN.out
          go_enter Tryd.func64, Tryd.ntmps64
          go_wp2_with fail
          refine (Get_c w B A c n l h hb).mono ?_
          rintro e w' ⟨rfl, rfl⟩
          rw [HG.out]
          simp only [tup3]
          go_wp2_with (with_reducible show wpList _ _ _ ((⟨some 34, Op.slice 31 _ _ _ _, _, _, _, _⟩ : Oper) :: _) _ _
                       go_must (refine wpList_cut rfl 31 (.tmp 31) _ _ rfl 5 _ 1 1 Tryd.underlying31 byte_info B A c n (bs l) rfl h kn (kn + xn) (.inr rfl) (.inr rfl) (by omega) (by omega) ?_))
          intro A' c' hr'
          have e1 : kn + xn - kn = xn := by omega
          try rw [e1] at hr'
          try rw [e1]
          simp only [← bs_drop, ← bs_take] at hr'
          refine wpList_toStr rfl 31 9 (.tmp 34) rfl 5 Tryd.underlying31 Tryd.underlying5 Tryd.underlying9 B A' c' xn _ rfl hr' ?_
          go_wp2
          go_ret3
          refine ⟨?_, rfl⟩
          rw [PNum.getT, HG.out, if_pos rfl, if_neg (by simp; omega), if_neg (by rw [HL.out]; show ¬ (n : Int) < (kn : Int) + (xn : Int); omega)]; rfl
  · go_enter Tryd.func64, Tryd.ntmps64
    go_wp2_with fail
    refine (Get_c w B A c n l h hb).mono ?_
    rintro e w' ⟨rfl, rfl⟩
    rw [HG.out]
    simp only [tup3]
    have e0 : (er == 0) = false := by simp; omega
    go_wp2
    go_ret3
    refine ⟨?_, rfl⟩
    rw [PNum.getT, HG.out, if_neg h0]; rfl

end Go.Proofs.YtfijjdahoimoeaaDoor

/- Contracts of entryOf, decodeOne. -/
namespace Go.Proofs.YtfijjdahoimoeaaDoor
open Go.RowKit

theorem results_cell_tmp2 {fn : Func} {p u v : Tmp} {ty : TypeId} (h : fn.results = #[.cell p ty, .tmp u, .tmp v]) (tmps : Array Value) (P : Program) (w : World) :
    (results fn tmps).run P w =
      ((asAddr (tmps.getD p undef)).run P w).andThen fun a w₁ => ((loadVar ty a).run P w₁).andThen fun x w₂ => .ok (.tuple #[x, tmps.getD u undef, tmps.getD v undef]) w₂ := by
  simp only [results, h]
  simp [Sem.run_bind, Result.andThen]
theorem results_row_tmp2 {P : Program} {fn : Func} {p u q : Tmp} {ty : TypeId} (h : fn.results = #[.cell p ty, .tmp u, .tmp q]) (tmps : Array Value) (w : World) (g : Nat) (t : TypeId) (cs : Array Value) (fr : Nat × Nat) (d : TypeDesc)
    {v z : Value} (hp : tmps.getD p undef = .pointer (some ⟨g, 0, none⟩)) (hv : tmps.getD u undef = v) (hz : tmps.getD q undef = z) (hg : w.heap[g]? = some (.cells cs t fr))
    (hu : P.underlying ty = some d) (hd : (match d with | .struct _ | .array _ _ => true | _ => false) = true) (hi : (P.info? ty).map (·.size) = some cs.size) :
    (results fn tmps).run P w = .ok (.tuple #[.agg cs, v, z]) w := by
  rw [results_cell_tmp2 h, hp, hv, hz]
  simp [asAddr, run_loadVar_row w g t ty cs fr d hg hu hd hi, Result.andThen]

set_option maxRecDepth 100000 in
theorem entryOf_c (w : World) (x0 x1 x2 x3 x4 x5 : Int) (d : ByteArray) : Calls Tryd.prog 65 #[.agg #[.int .i64 x0, .int .i64 x1, .int .i64 x2, .int .i64 x3, .int .i64 x4, .int .i64 x5], .string d] w fun x w' => x = .returned (ev ⟨x0, x1, x2, x3, x4, x5, d⟩) ∧ Below w.heap.size w w' := by
  go_enter Tryd.func65, Tryd.ntmps65
  go_wp2_with fail
  have K := Blk.newEnt (w.alloc (.cells #[.int .i64 x0, .int .i64 x1, .int .i64 x2, .int .i64 x3, .int .i64 x4, .int .i64 x5] 108)) 70 ⟨x0, x1, x2, x3, x4, x5, d⟩
  rw [show (w.alloc (.cells #[.int .i64 x0, .int .i64 x1, .int .i64 x2, .int .i64 x3, .int .i64 x4, .int .i64 x5] 108)).heap.size = w.heap.size + 1 by simp] at K
  refine bodyPost_ret (v := ev ⟨x0, x1, x2, x3, x4, x5, d⟩) (results_cell_row rfl _ _ (w.heap.size + 1) _ _ _ _ rfl K Tryd.underlying70 rfl (by kernel_rfl)) rfl ⟨rfl, ((Below.refl _ _).alloc (Nat.le_refl _) _).alloc (by simp) _⟩

/-- An entry, how many bytes, was there one, as Go hands them back. -/
def dtup : Option (Ent × Nat) → Value
  | some (e, k) => .tuple #[ev e, .int .i64 k, .bool true]
  | none => .tuple #[ev zeroE, .int .i64 0, .bool false]

theorem bs_tail {l : List Int} {n p : Nat} (h : l.length = n) : ((bs l).drop p).take (n - p) = bs (l.drop p) := by
  rw [← bs_drop, List.take_of_length_le (by rw [bs_length, List.length_drop]; omega)]
/-- The numbers that were read, then zeros. -/
def six (xs : List Int) : List Value := (xs ++ List.replicate (6 - xs.length) 0).map (Value.int .i64)
theorem six_set (xs : List Int) (x : Int) (h : xs.length < 6) : (six xs).set xs.length (.int .i64 x) = six (xs ++ [x]) := by
  unfold six
  rw [← List.map_set, List.set_append_right _ _ (by omega), Nat.sub_self]
  obtain ⟨k, hk⟩ : ∃ k, 6 - xs.length = k + 1 := ⟨5 - xs.length, by omega⟩
  have hk2 : 6 - (xs ++ [x]).length = k := by simp; omega
  rw [hk, hk2, List.replicate_succ, List.set_cons_zero]
  simp
theorem six_at (xs : List Int) (h : xs.length < 6) : (six xs)[xs.length]? = some (.int .i64 0) := by
  unfold six
  rw [List.getElem?_map, List.getElem?_append_right (by omega), Nat.sub_self, List.getElem?_replicate, if_pos (by omega)]; rfl
theorem six_len (xs : List Int) (h : xs.length ≤ 6) : (six xs).length = 6 := by simp [six]; omega

/-- The loop's invariant: xs were read of the first p bytes. -/
def N6 (l : List Int) (xs : List Int) (p : Nat) : Prop := PEnt.rdN 6 l = (PEnt.rdN (6 - xs.length) (l.drop p)).map fun q => (xs ++ q.1, p + q.2)
theorem N6.start (l : List Int) : N6 l [] 0 := by
  unfold N6
  simp
theorem N6.none {l xs : List Int} {p : Nat} (h : N6 l xs p) (hx : xs.length < 6) (he : (PNum.getB 0 0 (l.drop p)).2.2 ≠ 0) : PEnt.rdE l = none := by
  obtain ⟨k, hk⟩ : ∃ k, 6 - xs.length = k + 1 := ⟨5 - xs.length, by omega⟩
  unfold N6 at h
  rw [hk] at h
  unfold PEnt.rdE
  generalize PEnt.rdN 6 l = Q at *
  simp only [PEnt.rdN] at h
  rw [if_neg he] at h
  rw [h]; rfl
theorem N6.next {l xs : List Int} {p : Nat} {x : Int} {k : Nat} (h : N6 l xs p) (hx : xs.length < 6) (he : PNum.getB 0 0 (l.drop p) = (x, (k : Int), 0)) : N6 l (xs ++ [x]) (p + k) := by
  obtain ⟨j, hj⟩ : ∃ j, 6 - xs.length = j + 1 := ⟨5 - xs.length, by omega⟩
  have hj2 : 6 - (xs ++ [x]).length = j := by simp; omega
  unfold N6 at h ⊢
  rw [hj] at h
  rw [hj2]
  generalize PEnt.rdN 6 l = Q at *
  simp only [PEnt.rdN] at h
  rw [he, if_pos rfl] at h
  simp only [Int.toNat_natCast, List.drop_drop] at h
  rw [h]
  cases PEnt.rdN j (l.drop (p + k)) with
  | none => rfl
  | some q => simp [Nat.add_assoc]
theorem N6.done {l xs : List Int} {p : Nat} (h : N6 l xs p) (hx : xs.length = 6) : PEnt.rdE l = PEnt.rdT l xs p := by
  unfold N6 at h
  rw [hx] at h
  unfold PEnt.rdE
  generalize PEnt.rdN 6 l = Q at *
  simp only [Nat.sub_self, PEnt.rdN] at h
  rw [h]; simp
theorem list6' {xs : List Int} (h : xs.length = 6) : ∃ a b c d e f, xs = [a, b, c, d, e, f] := by
  match xs, h with
  | [a, b, c, d, e, f], _ => exact ⟨a, b, c, d, e, f, rfl⟩

set_option maxHeartbeats 4000000 in
set_option maxRecDepth 100000 in
theorem decodeOne_c (w : World) (B : Nat) (A : Option Addr) (c n : Nat) (l : List Int) (h : Rd w B A c 1 n (bs l)) (hb : isB l) (hn : n ≤ 1000000) :
    Calls Tryd.prog 53 #[.slice A n c] w fun x w' => x = .returned (dtup (PEnt.rdE l)) ∧ Below w.heap.size w w' := by
  have R0 := Lib.hid h.tight
  have HLn := Lib.hid h.blen
  have HB := Lib.hid hb
  clear h hb
  go_enter Tryd.func53, Tryd.ntmps53
  go_wp2_with fail
  have bel0 := ((Below.refl w.heap.size w).alloc (Nat.le_refl _) (.cells #[.int .i64 0, .int .i64 0, .int .i64 0, .int .i64 0, .int .i64 0, .int .i64 0, .string ⟨#[]⟩] 70)).alloc (by simp) (.cells #[.int .i64 0, .int .i64 0, .int .i64 0, .int .i64 0, .int .i64 0, .int .i64 0] 108)
  have K0 := (Blk.newEnt w 70 zeroE).alloc (.cells #[.int .i64 0, .int .i64 0, .int .i64 0, .int .i64 0, .int .i64 0, .int .i64 0] 108)
  have N0 := Blk.new (w.alloc (.cells #[.int .i64 0, .int .i64 0, .int .i64 0, .int .i64 0, .int .i64 0, .int .i64 0, .string ⟨#[]⟩] 70)) #[.int .i64 0, .int .i64 0, .int .i64 0, .int .i64 0, .int .i64 0, .int .i64 0] 108
  rw [show (w.alloc (.cells #[.int .i64 0, .int .i64 0, .int .i64 0, .int .i64 0, .int .i64 0, .int .i64 0, .string ⟨#[]⟩] 70)).heap.size = w.heap.size + 1 by simp] at N0
  have H0 : Hid (Below w.heap.size w _) := Lib.hid bel0
  have HK0 : Hid (Blk _ w.heap.size 70 (ecs zeroE)) := Lib.hid K0
  have HN0 : Hid (Blk _ (w.heap.size + 1) 108 (six [])) := Lib.hid N0
  clear bel0 K0 N0
  go_loopw [6, 7, 8, 9, 10, 15] (fun s6 _ _ _ _ s15 wr => ∃ (p : Nat) (xs : List Int), xs.length ≤ 6 ∧ p ≤ n ∧ s15 = .int .i64 xs.length ∧ s6 = .int .i64 p ∧ Hid (N6 l xs p) ∧
      Hid (Blk wr w.heap.size 70 (ecs zeroE)) ∧ Hid (Blk wr (w.heap.size + 1) 108 (six xs)) ∧ Hid (Below w.heap.size w wr))
    (fun _ _ _ _ _ s15 _ => 6 - (intOf s15).toNat)
  case atStart => exact ⟨0, [], by simp, by omega, rfl, rfl, Lib.hid (N6.start l), HK0, HN0, H0⟩
  case round =>
    clear H0 HK0 HN0
    obtain ⟨p, xs, hxl, hpn, rfl, rfl, HI, KE, KN, BL⟩ := hrel
    have RW := Lib.hid (R0.out.below BL.out)
    by_cases hlt : xs.length < 6
    · go_wp2_with (with_reducible show wpList _ _ _ ((⟨some 21, Op.slice 31 _ _ _ _, _, _, _, _⟩ : Oper) :: _) _ _
                   go_must (refine wpList_cut rfl 31 (.tmp 19) _ _ rfl 5 _ 1 1 Tryd.underlying31 byte_info _ A c n (bs l) rfl RW.out p n (.inr rfl) (.inl ⟨rfl, rfl⟩) (by omega) (by omega) ?_))
      intro A1 c1 hr1
      rw [bs_tail HLn.out] at hr1
      go_wp2_with fail
      refine (Get_c wr _ A1 c1 (n - p) (l.drop p) hr1 (HB.out.drop p)).mono ?_
      clear hr1
      obtain ⟨⟨x, k, er⟩, hg⟩ : ∃ r, PNum.getB 0 0 (l.drop p) = r := ⟨_, rfl⟩
      rw [hg]
      simp only [tup3]
      rintro e w1 ⟨rfl, rfl⟩
      by_cases h0 : er = 0
      · subst h0
        obtain ⟨_, g2, g3⟩ := PNum.getB_whole (HB.out.drop p) hg
        rw [List.length_drop, HLn.out] at g3
        obtain ⟨k, rfl⟩ := Int.eq_ofNat_of_zero_le (show 0 ≤ k by omega)
        have HI2 := Lib.hid (HI.out.next hlt hg)
        have HSet := Lib.hid (six_set xs x hlt)
        clear hg
        have q0 := KN.out.cell (six_at xs hlt)
        have q1 := KN.out.free xs.length
        have KN2 := Lib.hid (KN.out.set xs.length (.int .i64 x))
        have KE2 := Lib.hid (KE.out.far (grown_set wr (w.heap.size + 1) xs.length (.int .i64 x)) (by omega))
        have B2 := Lib.hid (BL.out.setCell (p := ⟨w.heap.size + 1, xs.length, none⟩) (Nat.le_succ _) (.int .i64 x))
        clear KN KE BL RW HI
        go_wp2_with fail
        go_roundw
        case rel => exact ⟨p + k, xs ++ [x], by simp; omega, by omega, by simp, by go_num, HI2, KE2, Lib.hid (by rw [← HSet.out]; exact KN2.out), B2⟩
        case measure => simp [intOf]; omega
      · have HF := Lib.hid (HI.out.none hlt (by rw [hg]; exact h0))
        have e0 : (er == 0) = false := by simpa using h0
        clear hg h0
        go_wp2_with ((with_reducible show wpList _ _ _ ((⟨none, Op.store 70 (.tmp 2) _, _, _, _, _⟩ : Oper) :: _) _ _); go_must (refine wpList_store_row rfl 70 (.tmp 2) (.tmp 28) rfl w.heap.size _ rfl rfl _ _ KE.out (by kernel_rfl) (by rfl) (by kernel_rfl) ?_))
        have K2 := KE.out.row #[.int .i64 0, .int .i64 0, .int .i64 0, .int .i64 0, .int .i64 0, .int .i64 0, .string ⟨#[]⟩]
        have B2 := grown_below (grown_row wr w.heap.size #[.int .i64 0, .int .i64 0, .int .i64 0, .int .i64 0, .int .i64 0, .int .i64 0, .string ⟨#[]⟩]) (Nat.le_refl _) BL.out.size
        refine bodyPost_ret (v := dtup none) (results_row_tmp2 rfl _ _ w.heap.size _ _ _ _ rfl rfl rfl K2 Tryd.underlying70 rfl (by kernel_rfl)) rfl ⟨by rw [HF.out], BL.out.trans B2⟩
    · have hx6 : xs.length = 6 := by omega
      have HD := Lib.hid (HI.out.done hx6)
      obtain ⟨x0, x1, x2, x3, x4, x5, rfl⟩ := list6' hx6
      have KN1 : Hid (Blk wr (w.heap.size + 1) 108 [.int .i64 x0, .int .i64 x1, .int .i64 x2, .int .i64 x3, .int .i64 x4, .int .i64 x5]) := Lib.hid KN.out
      have hl6 : ([x0, x1, x2, x3, x4, x5].length : Int) = 6 := rfl
      rw [hl6]
      clear hx6 hxl hlt HI KN hl6
      go_wp2_with (with_reducible show wpList _ _ _ ((⟨some 39, Op.slice 31 _ _ _ _, _, _, _, _⟩ : Oper) :: _) _ _
                   go_must (refine wpList_cut rfl 31 (.tmp 37) _ _ rfl 5 _ 1 1 Tryd.underlying31 byte_info _ A c n (bs l) rfl RW.out p n (.inr rfl) (.inl ⟨rfl, rfl⟩) (by omega) (by omega) ?_))
      intro A1 c1 hr1
      rw [bs_tail HLn.out] at hr1
      go_wp2_with fail
      refine (GetText_c wr _ A1 c1 (n - p) (l.drop p) hr1 (HB.out.drop p) (by omega)).mono ?_
      clear hr1
      obtain ⟨⟨s, k, er⟩, hg⟩ : ∃ r, PNum.getT (l.drop p) = r := ⟨_, rfl⟩
      rw [hg]
      simp only [tupT]
      rintro e w1 ⟨rfl, rfl⟩
      by_cases h0 : er = 0
      · subst h0
        obtain ⟨_, g2, g3, _⟩ := PNum.getT_whole (HB.out.drop p) hg
        rw [List.length_drop, HLn.out] at g3
        obtain ⟨k, rfl⟩ := Int.eq_ofNat_of_zero_le (show 0 ≤ k by omega)
        have HT := Lib.hid (show PEnt.rdE l = if PEnt.may ⟨x0, x1, x2, x3, x4, x5, strOfNums s⟩ = true then some (⟨x0, x1, x2, x3, x4, x5, strOfNums s⟩, p + k) else none by
          rw [HD.out]; unfold PEnt.rdT; rw [hg, if_pos rfl]; rfl)
        have q0 := KN1.out.cell (i := 0) rfl
        have q1 := KN1.out.cell (i := 1) rfl
        have q2 := KN1.out.cell (i := 2) rfl
        have q3 := KN1.out.cell (i := 3) rfl
        have q4 := KN1.out.cell (i := 4) rfl
        have q5 := KN1.out.cell (i := 5) rfl
        clear hg HD KN1 RW
        go_wp2_with fail
        clear q0 q1 q2 q3 q4 q5
        refine (entryOf_c wr x0 x1 x2 x3 x4 x5 (strOfNums s)).mono ?_
        rintro e w1 ⟨rfl, b1⟩
        have BL1 := Lib.hid (BL.out.trans (b1.mono BL.out.size))
        have KE1 := Lib.hid (KE.out.past b1)
        clear b1 BL KE
        simp only [ev]
        go_wp2_with fail
        have b1 := (Below.refl w1.heap.size w1).alloc (Nat.le_refl _) (.cells #[.int .i64 x0, .int .i64 x1, .int .i64 x2, .int .i64 x3, .int .i64 x4, .int .i64 x5, .string (strOfNums s)] 70)
        have KX := Blk.newEnt w1 70 ⟨x0, x1, x2, x3, x4, x5, strOfNums s⟩
        have KE3 := KE1.out.alloc (.cells #[.int .i64 x0, .int .i64 x1, .int .i64 x2, .int .i64 x3, .int .i64 x4, .int .i64 x5, .string (strOfNums s)] 70)
        generalize w1.alloc (.cells #[.int .i64 x0, .int .i64 x1, .int .i64 x2, .int .i64 x3, .int .i64 x4, .int .i64 x5, .string (strOfNums s)] 70) = w2 at *
        cases hy : PEnt.may ⟨x0, x1, x2, x3, x4, x5, strOfNums s⟩
        · have HR := Lib.hid (HT.out.trans (if_neg (by rw [hy]; simp)))
          refine (May_c w2 ⟨x0, x1, x2, x3, x4, x5, strOfNums s⟩).mono ?_
          rw [hy]
          rintro e w3 ⟨rfl, b3⟩
          have KE2 := Lib.hid (KE3.past b3)
          have B2 := Lib.hid ((BL1.out.trans (b1.mono BL1.out.size)).trans (b3.mono (Nat.le_trans BL1.out.size b1.size)))
          clear b1 b3 KX KE3 hy BL1 KE1 HT
          go_wp2_with ((with_reducible show wpList _ _ _ ((⟨none, Op.store 70 (.tmp 2) (.tmp 53), _, _, _, _⟩ : Oper) :: _) _ _); go_must (refine wpList_store_row rfl 70 (.tmp 2) (.tmp 53) rfl w.heap.size _ rfl rfl _ _ KE2.out (by kernel_rfl) (by rfl) (by kernel_rfl) ?_))
          have K2 := KE2.out.row #[.int .i64 0, .int .i64 0, .int .i64 0, .int .i64 0, .int .i64 0, .int .i64 0, .string ⟨#[]⟩]
          have B3 := grown_below (grown_row w3 w.heap.size #[.int .i64 0, .int .i64 0, .int .i64 0, .int .i64 0, .int .i64 0, .int .i64 0, .string ⟨#[]⟩]) (Nat.le_refl _) B2.out.size
          refine bodyPost_ret (v := dtup none) (results_row_tmp2 rfl _ _ w.heap.size _ _ _ _ rfl rfl rfl K2 Tryd.underlying70 rfl (by kernel_rfl)) rfl ⟨by rw [HR.out], B2.out.trans B3⟩
        · have HR := Lib.hid (HT.out.trans (if_pos hy))
          refine (May_c w2 ⟨x0, x1, x2, x3, x4, x5, strOfNums s⟩).mono ?_
          rw [hy]
          rintro e w3 ⟨rfl, b3⟩
          have KE2 := Lib.hid (KE3.past b3)
          have B2 := Lib.hid ((BL1.out.trans (b1.mono BL1.out.size)).trans (b3.mono (Nat.le_trans BL1.out.size b1.size)))
          obtain ⟨d0, d1, d2, d3, d4, d5, d6⟩ := (KX.past b3).ent
          clear b1 b3 KX KE3 hy BL1 KE1 HT
          go_wp2_with ((with_reducible show wpList _ _ _ ((⟨none, Op.store 70 (.tmp 2) (.tmp 54), _, _, _, _⟩ : Oper) :: _) _ _); go_must (refine wpList_store_row rfl 70 (.tmp 2) (.tmp 54) rfl w.heap.size _ rfl rfl _ _ KE2.out (by kernel_rfl) (by rfl) (by kernel_rfl) ?_))
          have K2 := KE2.out.row #[.int .i64 x0, .int .i64 x1, .int .i64 x2, .int .i64 x3, .int .i64 x4, .int .i64 x5, .string (strOfNums s)]
          have B3 := grown_below (grown_row w3 w.heap.size #[.int .i64 x0, .int .i64 x1, .int .i64 x2, .int .i64 x3, .int .i64 x4, .int .i64 x5, .string (strOfNums s)]) (Nat.le_refl _) B2.out.size
          have HP := Lib.hid (show (p : Int) + (k : Int) = ((p + k : Nat) : Int) by omega)
          refine bodyPost_ret (v := dtup (some (⟨x0, x1, x2, x3, x4, x5, strOfNums s⟩, p + k))) (results_row_tmp2 rfl _ _ w.heap.size _ _ _ _ rfl (by rw [← HP.out]; rfl) rfl K2 Tryd.underlying70 rfl (by kernel_rfl)) rfl ⟨by rw [HR.out], B2.out.trans B3⟩
      · have HF := Lib.hid (show PEnt.rdE l = none by
          rw [HD.out]; unfold PEnt.rdT; rw [hg, if_neg h0])
        have e0 : (er == 0) = false := by simpa using h0
        have KE2 := KE
        clear hg h0
        go_wp2_with ((with_reducible show wpList _ _ _ ((⟨none, Op.store 70 (.tmp 2) (.tmp 46), _, _, _, _⟩ : Oper) :: _) _ _); go_must (refine wpList_store_row rfl 70 (.tmp 2) (.tmp 46) rfl w.heap.size _ rfl rfl _ _ KE2.out (by kernel_rfl) (by rfl) (by kernel_rfl) ?_))
        have K2 := KE.out.row #[.int .i64 0, .int .i64 0, .int .i64 0, .int .i64 0, .int .i64 0, .int .i64 0, .string ⟨#[]⟩]
        have B2 := grown_below (grown_row wr w.heap.size #[.int .i64 0, .int .i64 0, .int .i64 0, .int .i64 0, .int .i64 0, .int .i64 0, .string ⟨#[]⟩]) (Nat.le_refl _) BL.out.size
        refine bodyPost_ret (v := dtup none) (results_row_tmp2 rfl _ _ w.heap.size _ _ _ _ rfl rfl rfl K2 Tryd.underlying70 rfl (by kernel_rfl)) rfl ⟨by rw [HF.out], BL.out.trans B2⟩
end Go.Proofs.YtfijjdahoimoeaaDoor

/- Contract of getNumbers. -/
namespace Go.Proofs.YtfijjdahoimoeaaDoor
open Go.RowKit

/-- Numbers, how many bytes, were they all there, as Go hands them back. -/
def gtup : Option (List Int × Nat) → Value
  | some (x, p) => .tuple #[nv13 x, .int .i64 p, .bool true]
  | none => .tuple #[nv13 (List.replicate 13 0), .int .i64 0, .bool false]

/-- The numbers that were read, then zeros. -/
def row13 (xs : List Int) : List Value := (xs ++ List.replicate (13 - xs.length) 0).map (Value.int .i64)
theorem row13_set (xs : List Int) (x : Int) (h : xs.length < 13) : (row13 xs).set xs.length (.int .i64 x) = row13 (xs ++ [x]) := by
  unfold row13
  rw [← List.map_set, List.set_append_right _ _ (by omega), Nat.sub_self]
  obtain ⟨k, hk⟩ : ∃ k, 13 - xs.length = k + 1 := ⟨12 - xs.length, by omega⟩
  have hk2 : 13 - (xs ++ [x]).length = k := by simp; omega
  rw [hk, hk2, List.replicate_succ, List.set_cons_zero]
  simp
theorem row13_at (xs : List Int) (h : xs.length < 13) : (row13 xs)[xs.length]? = some (.int .i64 0) := by
  unfold row13
  rw [List.getElem?_map, List.getElem?_append_right (by omega), Nat.sub_self, List.getElem?_replicate, if_pos (by omega)]; rfl

/-- The loop's invariant: xs were read of the first p bytes. -/
def N13 (l : List Int) (xs : List Int) (p : Nat) : Prop := PEnt.rdN 13 l = (PEnt.rdN (13 - xs.length) (l.drop p)).map fun q => (xs ++ q.1, p + q.2)
theorem N13.start (l : List Int) : N13 l [] 0 := by
  unfold N13
  simp
theorem N13.none {l xs : List Int} {p : Nat} (h : N13 l xs p) (hx : xs.length < 13) (he : (PNum.getB 0 0 (l.drop p)).2.2 ≠ 0) : PEnt.rdN 13 l = none := by
  obtain ⟨k, hk⟩ : ∃ k, 13 - xs.length = k + 1 := ⟨12 - xs.length, by omega⟩
  unfold N13 at h
  rw [hk] at h
  generalize PEnt.rdN 13 l = Q at *
  simp only [PEnt.rdN] at h
  rw [if_neg he] at h
  rw [h]; rfl
theorem N13.next {l xs : List Int} {p : Nat} {x : Int} {k : Nat} (h : N13 l xs p) (hx : xs.length < 13) (he : PNum.getB 0 0 (l.drop p) = (x, (k : Int), 0)) : N13 l (xs ++ [x]) (p + k) := by
  obtain ⟨j, hj⟩ : ∃ j, 13 - xs.length = j + 1 := ⟨12 - xs.length, by omega⟩
  have hj2 : 13 - (xs ++ [x]).length = j := by simp; omega
  unfold N13 at h ⊢
  rw [hj] at h
  rw [hj2]
  generalize PEnt.rdN 13 l = Q at *
  simp only [PEnt.rdN] at h
  rw [he, if_pos rfl] at h
  simp only [Int.toNat_natCast, List.drop_drop] at h
  rw [h]
  cases PEnt.rdN j (l.drop (p + k)) with
  | none => rfl
  | some q => simp [Nat.add_assoc]
theorem N13.done {l xs : List Int} {p : Nat} (h : N13 l xs p) (hx : xs.length = 13) : PEnt.rdN 13 l = some (xs, p) := by
  unfold N13 at h
  rw [hx] at h
  generalize PEnt.rdN 13 l = Q at *
  simp only [Nat.sub_self, PEnt.rdN] at h
  rw [h]; simp
theorem list13 {xs : List Int} (h : xs.length = 13) : ∃ x0 x1 x2 x3 x4 x5 x6 x7 x8 x9 x10 x11 x12, xs = [x0, x1, x2, x3, x4, x5, x6, x7, x8, x9, x10, x11, x12] := by
  match xs, h with
  | [x0, x1, x2, x3, x4, x5, x6, x7, x8, x9, x10, x11, x12], _ => exact ⟨x0, x1, x2, x3, x4, x5, x6, x7, x8, x9, x10, x11, x12, rfl⟩

set_option maxHeartbeats 4000000 in
set_option maxRecDepth 100000 in
theorem getNumbers_c (w : World) (B : Nat) (A : Option Addr) (c n : Nat) (l : List Int) (h : Rd w B A c 1 n (bs l)) (hb : isB l) (hn : n ≤ 1000000) :
    Calls Tryd.prog 36 #[.slice A n c] w fun x w' => x = .returned (gtup (PEnt.rdN 13 l)) ∧ Below w.heap.size w w' := by
  have R0 := Lib.hid h.tight
  have HLn := Lib.hid h.blen
  have HB := Lib.hid hb
  clear h hb
  go_enter Tryd.func36, Tryd.ntmps36
  go_wp2_with fail
  have bel0 := ((Below.refl w.heap.size w).alloc (Nat.le_refl _) (.cells #[.int .i64 0, .int .i64 0, .int .i64 0, .int .i64 0, .int .i64 0, .int .i64 0, .int .i64 0, .int .i64 0, .int .i64 0, .int .i64 0, .int .i64 0, .int .i64 0, .int .i64 0] 80)).alloc (by simp) (.cells #[.int .i64 0, .int .i64 0, .int .i64 0, .int .i64 0, .int .i64 0, .int .i64 0, .int .i64 0, .int .i64 0, .int .i64 0, .int .i64 0, .int .i64 0, .int .i64 0, .int .i64 0] 80)
  have K0 := (Blk.new w #[.int .i64 0, .int .i64 0, .int .i64 0, .int .i64 0, .int .i64 0, .int .i64 0, .int .i64 0, .int .i64 0, .int .i64 0, .int .i64 0, .int .i64 0, .int .i64 0, .int .i64 0] 80).alloc (.cells #[.int .i64 0, .int .i64 0, .int .i64 0, .int .i64 0, .int .i64 0, .int .i64 0, .int .i64 0, .int .i64 0, .int .i64 0, .int .i64 0, .int .i64 0, .int .i64 0, .int .i64 0] 80)
  have N0 := Blk.new (w.alloc (.cells #[.int .i64 0, .int .i64 0, .int .i64 0, .int .i64 0, .int .i64 0, .int .i64 0, .int .i64 0, .int .i64 0, .int .i64 0, .int .i64 0, .int .i64 0, .int .i64 0, .int .i64 0] 80)) #[.int .i64 0, .int .i64 0, .int .i64 0, .int .i64 0, .int .i64 0, .int .i64 0, .int .i64 0, .int .i64 0, .int .i64 0, .int .i64 0, .int .i64 0, .int .i64 0, .int .i64 0] 80
  rw [show (w.alloc (.cells #[.int .i64 0, .int .i64 0, .int .i64 0, .int .i64 0, .int .i64 0, .int .i64 0, .int .i64 0, .int .i64 0, .int .i64 0, .int .i64 0, .int .i64 0, .int .i64 0, .int .i64 0] 80)).heap.size = w.heap.size + 1 by simp] at N0
  have H0 : Hid (Below w.heap.size w _) := Lib.hid bel0
  have HK0 : Hid (Blk _ w.heap.size 80 (row13 [])) := Lib.hid K0
  have HN0 : Hid (Blk _ (w.heap.size + 1) 80 (row13 [])) := Lib.hid N0
  clear bel0 K0 N0
  go_loopw [6, 7, 8, 9, 10, 11] (fun s6 _ _ _ _ s11 wr => ∃ (p : Nat) (xs : List Int), xs.length ≤ 13 ∧ p ≤ n ∧ s11 = .int .i64 xs.length ∧ s6 = .int .i64 p ∧ Hid (N13 l xs p) ∧
      Hid (Blk wr w.heap.size 80 (row13 [])) ∧ Hid (Blk wr (w.heap.size + 1) 80 (row13 xs)) ∧ Hid (Below w.heap.size w wr))
    (fun _ _ _ _ _ s11 _ => 13 - (intOf s11).toNat)
  case atStart => exact ⟨0, [], by simp, by omega, rfl, rfl, Lib.hid (N13.start l), HK0, HN0, H0⟩
  case round =>
    clear H0 HK0 HN0
    obtain ⟨p, xs, hxl, hpn, rfl, rfl, HI, KE, KN, BL⟩ := hrel
    have RW := Lib.hid (R0.out.below BL.out)
    by_cases hlt : xs.length < 13
    · go_wp2_with (with_reducible show wpList _ _ _ ((⟨some 17, Op.slice 31 _ _ _ _, _, _, _, _⟩ : Oper) :: _) _ _
                   go_must (refine wpList_cut rfl 31 (.tmp 15) _ _ rfl 5 _ 1 1 Tryd.underlying31 byte_info _ A c n (bs l) rfl RW.out p n (.inr rfl) (.inl ⟨rfl, rfl⟩) (by omega) (by omega) ?_))
      intro A1 c1 hr1
      rw [bs_tail HLn.out] at hr1
      go_wp2_with fail
      refine (Get_c wr _ A1 c1 (n - p) (l.drop p) hr1 (HB.out.drop p)).mono ?_
      clear hr1
      obtain ⟨⟨x, k, er⟩, hg⟩ : ∃ r, PNum.getB 0 0 (l.drop p) = r := ⟨_, rfl⟩
      rw [hg]
      simp only [tup3]
      rintro e w1 ⟨rfl, rfl⟩
      by_cases h0 : er = 0
      · subst h0
        obtain ⟨_, g2, g3⟩ := PNum.getB_whole (HB.out.drop p) hg
        rw [List.length_drop, HLn.out] at g3
        obtain ⟨k, rfl⟩ := Int.eq_ofNat_of_zero_le (show 0 ≤ k by omega)
        have HI2 := Lib.hid (HI.out.next hlt hg)
        have HSet := Lib.hid (row13_set xs x hlt)
        clear hg
        have q0 := KN.out.cell (row13_at xs hlt)
        have q1 := KN.out.free xs.length
        have KN2 := Lib.hid (KN.out.set xs.length (.int .i64 x))
        have KE2 := Lib.hid (KE.out.far (grown_set wr (w.heap.size + 1) xs.length (.int .i64 x)) (by omega))
        have B2 := Lib.hid (BL.out.setCell (p := ⟨w.heap.size + 1, xs.length, none⟩) (Nat.le_succ _) (.int .i64 x))
        clear KN KE BL RW HI
        go_wp2_with fail
        go_roundw
        case rel => exact ⟨p + k, xs ++ [x], by simp; omega, by omega, by simp, by go_num, HI2, KE2, Lib.hid (by rw [← HSet.out]; exact KN2.out), B2⟩
        case measure => simp [intOf]; omega
      · have HF := Lib.hid (HI.out.none hlt (by rw [hg]; exact h0))
        have e0 : (er == 0) = false := by simpa using h0
        clear hg h0
        go_wp2_with ((with_reducible show wpList _ _ _ ((⟨none, Op.store 80 (.tmp 2) _, _, _, _, _⟩ : Oper) :: _) _ _); go_must (refine wpList_store_row rfl 80 (.tmp 2) (.tmp 24) rfl w.heap.size _ rfl rfl _ _ KE.out (by kernel_rfl) (by rfl) (by kernel_rfl) ?_))
        have K2 := KE.out.row #[.int .i64 0, .int .i64 0, .int .i64 0, .int .i64 0, .int .i64 0, .int .i64 0, .int .i64 0, .int .i64 0, .int .i64 0, .int .i64 0, .int .i64 0, .int .i64 0, .int .i64 0]
        have B2 := grown_below (grown_row wr w.heap.size #[.int .i64 0, .int .i64 0, .int .i64 0, .int .i64 0, .int .i64 0, .int .i64 0, .int .i64 0, .int .i64 0, .int .i64 0, .int .i64 0, .int .i64 0, .int .i64 0, .int .i64 0]) (Nat.le_refl _) BL.out.size
        refine bodyPost_ret (v := gtup none) (results_row_tmp2 rfl _ _ w.heap.size _ _ _ _ rfl rfl rfl K2 Tryd.underlying80 rfl (by kernel_rfl)) rfl ⟨by rw [HF.out], BL.out.trans B2⟩
    · have hx : xs.length = 13 := by omega
      have HD := Lib.hid (HI.out.done hx)
      obtain ⟨x0, x1, x2, x3, x4, x5, x6, x7, x8, x9, x10, x11, x12, rfl⟩ := list13 hx
      have KN1 : Hid (Blk wr (w.heap.size + 1) 80 [.int .i64 x0, .int .i64 x1, .int .i64 x2, .int .i64 x3, .int .i64 x4, .int .i64 x5, .int .i64 x6, .int .i64 x7, .int .i64 x8, .int .i64 x9, .int .i64 x10, .int .i64 x11, .int .i64 x12]) := Lib.hid KN.out
      have hl : ([x0, x1, x2, x3, x4, x5, x6, x7, x8, x9, x10, x11, x12].length : Int) = 13 := rfl
      rw [hl]
      clear hx hxl hlt HI KN hl
      go_wp2_with (first
        | ((with_reducible show wpList _ _ _ ((⟨some 32, Op.load _ _, _, _, _, _⟩ : Oper) :: _) _ _); go_must (refine wpList_load_row rfl 80 (.tmp 5) rfl (w.heap.size + 1) rfl 80 #[.int .i64 x0, .int .i64 x1, .int .i64 x2, .int .i64 x3, .int .i64 x4, .int .i64 x5, .int .i64 x6, .int .i64 x7, .int .i64 x8, .int .i64 x9, .int .i64 x10, .int .i64 x11, .int .i64 x12] (0, 0) _ KN1.out Tryd.underlying80 rfl (by kernel_rfl) ?_))
        | ((with_reducible show wpList _ _ _ ((⟨none, Op.store 80 (.tmp 2) _, _, _, _, _⟩ : Oper) :: _) _ _); go_must (refine wpList_store_row rfl 80 (.tmp 2) (.tmp 32) rfl w.heap.size _ rfl rfl _ _ KE.out (by kernel_rfl) (by rfl) (by kernel_rfl) ?_)))
      have K2 := KE.out.row #[.int .i64 x0, .int .i64 x1, .int .i64 x2, .int .i64 x3, .int .i64 x4, .int .i64 x5, .int .i64 x6, .int .i64 x7, .int .i64 x8, .int .i64 x9, .int .i64 x10, .int .i64 x11, .int .i64 x12]
      have B2 := grown_below (grown_row wr w.heap.size #[.int .i64 x0, .int .i64 x1, .int .i64 x2, .int .i64 x3, .int .i64 x4, .int .i64 x5, .int .i64 x6, .int .i64 x7, .int .i64 x8, .int .i64 x9, .int .i64 x10, .int .i64 x11, .int .i64 x12]) (Nat.le_refl _) BL.out.size
      refine bodyPost_ret (v := gtup (some ([x0, x1, x2, x3, x4, x5, x6, x7, x8, x9, x10, x11, x12], p))) (results_row_tmp2 rfl _ _ w.heap.size _ _ _ _ rfl rfl rfl K2 Tryd.underlying80 rfl (by kernel_rfl)) rfl ⟨by rw [HD.out], BL.out.trans B2⟩
end Go.Proofs.YtfijjdahoimoeaaDoor

/- A region that draws its order where several writes or calls may come up: each of them is walked. No program is named here. -/
namespace Go.Proofs.YtfijjdahoimoeaaDoor
open Go.RowKit

section
variable {P : Program} {ops : Array Oper} {Q : Exit → Act → World → Prop}

/-- What is asked where number i comes up. -/
def Pk (P : Program) (ops : Array Oper) (Q : Exit → Act → World → Prop) (B n : Nat) (listed : Array Bool) (a : Act) (w : World) (i : Nat) : Prop :=
  wpOp P ops (NoPanic Q) i (fun a' w' => Below B w w' ∧ wpAnyH P .any ops (NoPanic Q) (Below B w) n (listed.setIfInBounds i true) a' w') a w

theorem Hb.two {B n : Nat} {listed : Array Bool} {a : Act} {w : World} (i j : Nat) (h1 : Pk P ops Q B n listed a w i) (h2 : Pk P ops Q B n listed a w j) (hr : Region.ready .any ops listed = [i, j] := by kernel_rfl) : Hb P ops Q B (n + 1) listed a w := by
  refine wpAnyH_all hr (by simp) fun x hx => ?_
  simp only [List.mem_cons, List.not_mem_nil, or_false] at hx
  rcases hx with rfl | rfl
  · exact h1
  · exact h2
theorem Hb.three {B n : Nat} {listed : Array Bool} {a : Act} {w : World} (i j k : Nat) (h1 : Pk P ops Q B n listed a w i) (h2 : Pk P ops Q B n listed a w j) (h3 : Pk P ops Q B n listed a w k) (hr : Region.ready .any ops listed = [i, j, k] := by kernel_rfl) : Hb P ops Q B (n + 1) listed a w := by
  refine wpAnyH_all hr (by simp) fun x hx => ?_
  simp only [List.mem_cons, List.not_mem_nil, or_false] at hx
  rcases hx with rfl | rfl | rfl
  · exact h1
  · exact h2
  · exact h3

theorem Hb.pick {B n : Nat} {listed : Array Bool} {a : Act} {w : World} {o : Oper} (i : Nat) (d : Option Nat) (hi : ops[i]? = some o)
    (h : wpList P ops (Nx Q fun a' w' => Below B w w' ∧ ∃ B', B ≤ B' ∧ Hb P ops Q B' n (listed.setIfInBounds i true) a' w') [{ o with guard := none, dst := d }] a w)
    (hw : Region.wanted o (yielded ops a.tmps) = true := by rfl) (hd : o.dst = d := by rfl) : Pk P ops Q B n listed a w i := by
  subst hd
  unfold Pk wpOp
  simp only [hi, hw, if_true]
  have he : execOp a.eval { o with guard := none } = execOp a.eval o := rfl
  unfold wpList at h
  have hw' : Region.wanted { o with guard := none } (yielded ops a.tmps) = true := rfl
  rw [if_pos hw'] at h
  rcases h with h | ⟨h, q⟩
  · refine .inl ?_
    unfold Oper.wp at *
    rw [he] at h
    generalize (execOp a.eval o).run P w = r at *
    have step : ∀ a' w', wpList P ops (Nx Q fun a' w' => Below B w w' ∧ ∃ B', B ≤ B' ∧ Hb P ops Q B' n (listed.setIfInBounds i true) a' w') [] a' w' → Below B w w' ∧ wpAnyH P .any ops (NoPanic Q) (Below B w) n (listed.setIfInBounds i true) a' w' := by
      rintro a' w' ⟨hb, B', hB, hh⟩
      exact ⟨hb, hh.on hb hB⟩
    cases r with
    | ok n w' =>
      cases n <;> simp only [Oper.upon] at h ⊢ <;>
        first
          | exact step _ _ h
          | exact Calls.mono h (fun e w'' he => by
              cases e
              · exact step _ _ he
              · exact he
              · exact he)
          | exact Rows.mono h (fun _ _ he => step _ _ he)
    | halt x w' => cases x <;> simp only [Oper.upon] at h ⊢ <;> exact h
  · exact .inr ⟨h, q⟩

theorem Hb.pickCall {B n : Nat} {listed : Array Bool} {a : Act} {w : World} {o : Oper} {f : FuncId} {args : Array Value} (i d : Nat) (hi : ops[i]? = some o)
    (h : Calls P f args w fun e w' => ∃ v a', e = .returned v ∧ a.put (some d) v = a' ∧ Below B w w' ∧ ∃ B', B ≤ B' ∧ Hb P ops Q B' n (listed.setIfInBounds i true) a' w')
    (hrun : (execOp a.eval o).run P w = .ok (.enter f args) w)
    (hw : Region.wanted o (yielded ops a.tmps) = true := by rfl) (hd : o.dst = some d := by rfl) : Pk P ops Q B n listed a w i := by
  rw [← hd] at h
  unfold Pk wpOp
  simp only [hi, hw, if_true]
  refine .inl ?_
  unfold Oper.wp
  rw [hrun]
  refine h.mono fun e w' => ?_
  rintro ⟨v, a', rfl, rfl, hb, B', hB, hh⟩
  exact ⟨hb, hh.on hb hB⟩

/-- A new zero variable, said by the caller. -/
theorem wpList_runTo' {rest : List Oper} {o : Oper} {a : Act} {w : World} (hg : o.guard = none) (v : Value) (w' : World) (hrun : (execOp a.eval o).run P w = .ok (.value v) w')
    (h : wpList P ops Q rest (a.put o.dst v) w') : wpList P ops Q (o :: rest) a w := by
  refine wpList_plain hg fun K hK => ?_
  unfold Oper.wp
  rw [hrun, Oper.upon_value]
  exact hK _ _ h
end
end Go.Proofs.YtfijjdahoimoeaaDoor

/- 'Ow': a slice of the call's own, at the head of its block, whatever lies behind its capacity ('l[:i:i]' too); what append leaves of it. No program is named here. -/
namespace Go.Proofs.YtfijjdahoimoeaaDoor
open Go.RowKit

def Ow (w : World) (base : Nat) (e : TypeId) (k : Nat) (A : Option Addr) (n c : Nat) (xs : List Value) : Prop :=
  xs.length = n * k ∧ ((A = none ∧ n = 0 ∧ c = 0) ∨ ∃ g Z, A = some ⟨g, 0, none⟩ ∧ base ≤ g ∧ Blk w g e (xs ++ Z) ∧ n ≤ c ∧ c ≤ maxLen ∧ c * k ≤ (xs ++ Z).length)
/-- The slice's block. -/
def bk (A : Option Addr) : Option Nat := A.map (·.block)

section
variable {w w' : World} {base k n c g i : Nat} {e : TypeId} {A : Option Addr} {xs : List Value} {S : List Nat}
theorem Ow.nil (w : World) (base : Nat) (e : TypeId) (k : Nat) : Ow w base e k none 0 0 [] := ⟨by simp, .inl ⟨rfl, rfl, rfl⟩⟩
theorem Ow.of_own (h : w.ownsRow base e k (.slice A n c) n xs) : Ow w base e k A n c xs := by
  refine ⟨h.1, ?_⟩
  rcases h.2 with ⟨h1, h2⟩ | ⟨g, cap, cur, hv, hb, hh, hn, hc, hs, ht⟩
  · cases h1; exact .inl ⟨rfl, rfl, rfl⟩
  · cases hv
    have e1 : xs ++ cur.toList.drop (n * k) = cur.toList := by rw [← ht, List.take_append_drop]
    refine .inr ⟨g, cur.toList.drop (n * k), rfl, hb, ?_, hn, hc, ?_⟩
    · rw [e1]; simpa [Blk] using hh
    · rw [e1]; simp [hs]
theorem Ow.le (h : Ow w base e k A n c xs) : n ≤ c := by
  rcases h.2 with ⟨_, h1, h2⟩ | ⟨_, _, _, _, _, h1, _⟩
  · omega
  · exact h1
theorem Ow.rd (h : Ow w base e k A n c xs) : Rd w w.heap.size A c k n xs := by
  refine ⟨h.1, h.le, ?_⟩
  rcases h.2 with ⟨h0, h1, h2⟩ | ⟨g, Z, hA, hb, hB, hn, hc, hz⟩
  · exact ⟨by rw [h2]; simp [maxLen], fun _ => h2, fun hp => by rw [h1] at hp; simp at hp⟩
  · refine ⟨hc, (fun h => by rw [hA] at h; cases h), fun _ => ⟨g, 0, hA, hB.lt, fun j u hu => ?_⟩⟩
    rw [Nat.zero_add]
    exact hB.cell (by rw [List.getElem?_append_left (List.getElem?_eq_some_iff.1 hu).1]; exact hu)
theorem Ow.touch (h : Ow w base e k A n c xs) (ht : Touch S w w') (hs : ∀ g ∈ S, bk A ≠ some g) : Ow w' base e k A n c xs := by
  refine ⟨h.1, ?_⟩
  rcases h.2 with h2 | ⟨g, Z, hA, hb, hB, r⟩
  · exact .inl h2
  · exact .inr ⟨g, Z, hA, hb, hB.touch ht (fun hm => hs g hm (by rw [hA]; rfl)), r⟩
theorem Ow.past (h : Ow w base e k A n c xs) (hb : Below w.heap.size w w') : Ow w' base e k A n c xs := h.touch (S := []) (.of_below hb) (by simp)
/-- Blocks of another type are others. -/
theorem Ow.ne {e' : TypeId} {ys : List Value} (h : Ow w base e k A n c xs) (h' : Blk w g e' ys) (he : e ≠ e') : bk A ≠ some g := by
  rcases h.2 with ⟨h0, _⟩ | ⟨g', Z, hA, hb, hB, _⟩
  · rw [h0]; simp [bk]
  · rw [hA]
    intro hg
    have e1 : g' = g := by simpa [bk] using hg
    subst e1
    exact hB.ne h' he rfl
/-- 'l[:m:m]'. -/
theorem Ow.head (h : Ow w base e k A n c xs) {m : Nat} (hm : m ≤ n) : Ow w base e k A m m (xs.take (m * k)) := by
  have hl := h.1
  have hmk : m * k ≤ n * k := Nat.mul_le_mul_right k hm
  refine ⟨by rw [List.length_take]; omega, ?_⟩
  rcases h.2 with ⟨h0, h1, h2⟩ | ⟨g, Z, hA, hb, hB, hn, hc, hz⟩
  · exact .inl ⟨h0, by omega, by omega⟩
  · refine .inr ⟨g, xs.drop (m * k) ++ Z, hA, hb, ?_, Nat.le_refl _, by omega, ?_⟩
    · rw [← List.append_assoc, List.take_append_drop]; exact hB
    · simp only [List.length_append, List.length_take, List.length_drop]; omega
/-- A cell of it. -/
theorem Ow.cell (h : Ow w base e k A n c xs) (hA : A = some ⟨g, 0, none⟩) {u : Value} (hu : xs[i]? = some u) : w.cell? ⟨g, i, none⟩ = some u ∧ w.frozen? ⟨g, i, none⟩ = false := by
  rcases h.2 with ⟨h0, _⟩ | ⟨g', Z, hA', hb, hB, _⟩
  · rw [h0] at hA; cases hA
  · rw [hA] at hA'; cases hA'
    exact ⟨hB.cell (by rw [List.getElem?_append_left (List.getElem?_eq_some_iff.1 hu).1]; exact hu), hB.free i⟩
theorem Ow.set (h : Ow w base e k A n c xs) (hA : A = some ⟨g, 0, none⟩) (hi : i < xs.length) (u : Value) : Ow (w.setCell ⟨g, i, none⟩ u) base e k A n c (xs.set i u) := by
  refine ⟨by rw [List.length_set]; exact h.1, ?_⟩
  rcases h.2 with ⟨h0, _⟩ | ⟨g', Z, hA', hb, hB, hn, hc, hz⟩
  · rw [h0] at hA; cases hA
  · rw [hA] at hA'; cases hA'
    have := hB.set i u
    rw [List.set_append_left _ _ hi] at this
    exact .inr ⟨g, Z, hA, hb, this, hn, hc, by simpa using hz⟩
theorem Ow.some (h : Ow w base e k A n c xs) (hn : 0 < n) : ∃ g, A = .some ⟨g, 0, none⟩ ∧ base ≤ g ∧ g < w.heap.size := by
  rcases h.2 with ⟨_, h1, _⟩ | ⟨g, Z, hA, hb, hB, _⟩
  · omega
  · exact ⟨g, hA, hb, hB.lt⟩
theorem Ow.down {base' : Nat} (h : Ow w base e k A n c xs) (hb : base' ≤ base) : Ow w base' e k A n c xs := by
  refine ⟨h.1, ?_⟩
  rcases h.2 with h2 | ⟨g, Z, hA, hg, r⟩
  · exact .inl h2
  · exact .inr ⟨g, Z, hA, by omega, r⟩
theorem Ow.hi (h : Ow w base e k A n c xs) : ∀ g, bk A = Option.some g → g < w.heap.size := by
  intro g hg
  rcases h.2 with ⟨h0, _⟩ | ⟨g', Z, hA, hb, hB, _⟩
  · rw [h0] at hg; cases hg
  · rw [hA] at hg
    have e1 : g' = g := by simpa [bk] using hg
    subst e1; exact hB.lt
theorem Ow.low (h : Ow w base e k A n c xs) : ∀ g, bk A = Option.some g → base ≤ g := by
  intro g hg
  rcases h.2 with ⟨h0, _⟩ | ⟨g', Z, hA, hb, _⟩
  · rw [h0] at hg; cases hg
  · rw [hA] at hg; simp [bk] at hg; omega
end

/-- The slice's block, as a list. -/
def bl (A : Option Addr) : List Nat := match bk A with | some g => [g] | none => []
theorem mem_bl {A : Option Addr} {g : Nat} : g ∈ bl A ↔ bk A = some g := by
  unfold bl
  cases bk A <;> simp [eq_comm]
theorem Touch.of_bk {w w' : World} {A : Option Addr} (h : w.grownBy w' (bk A)) : Touch (bl A) w w' := Touch.of_grown_none h (fun _ hk => mem_bl.2 hk)

section
variable {P : Program}
/-- 'append' onto a slice of the call's own, whatever the source. -/
theorem run_app (w : World) (t ty e : TypeId) (i : TypeInfo) (z : Value) (k bytes : Nat) (ht : P.underlying t = some (.slice e)) (hi : P.info? e = some i) (hz : i.zero = some z) (hk : i.size = k) (hby : i.bytes = bytes) (hzs : z.cells.size = k) (hk0 : 0 < k)
    {base n c : Nat} {A : Option Addr} {xs : List Value} (h : Ow w base e k A n c xs) {B cx m : Nat} {X : Option Addr} {news : List Value} (hr : Rd w B X cx k m news) (h1 : ∀ u ∈ news, u.oneCell' = true)
    (h63 : n + m ≤ maxLen) (hbytes : (n + m) * bytes ≤ 140737488355328) (hbase : base ≤ w.heap.size) :
    ∃ A' c' w', (Builtin.append_ #[t, t] ty #[.slice A n c, .slice X m cx]).run P w = .ok (.slice A' (n + m) c') w' ∧ Ow w' base e k A' (n + m) c' (xs ++ news) ∧ w.grownBy w' (bk A) ∧ (∀ g, bk A' = Option.some g → bk A = Option.some g ∨ w.heap.size ≤ g) ∧ (c < n + m → w.grownBy w' none ∧ Ow w' w.heap.size e k A' (n + m) c' (xs ++ news)) ∧ (c = n → w.grownBy w' none) := by
  rcases Nat.eq_zero_or_pos m with rfl | hm
  · have hn : news = [] := List.eq_nil_of_length_eq_zero (by simpa using hr.1)
    subst hn
    have hle := h.le
    refine ⟨A, c, w, ?_, by simpa using h, World.grownBy.refl _ _, fun g hg => .inl hg, fun h' => absurd h' (by omega), fun _ => World.grownBy.refl _ _⟩
    cases A <;> cases X <;> simp [Builtin.append_, run_underlying ht, sizeOf, typeInfo, hi, Builtin.lenOf, hle, Builtin.firstCells, loadCells, loadCellsFrom, storeCells]
  · obtain ⟨bx, ox, rfl, _, hc⟩ := hr.2.2.2.2 (Nat.mul_pos hm hk0)
    have hnews : ∀ j u, news[j]? = Option.some u → w.cell? ((⟨bx, ox, none⟩ : Addr).add j) = Option.some u := fun j u hu => by rw [add_zero_spot]; exact hc j u hu
    have hown := h
    rcases h.2 with ⟨rfl, rfl, rfl⟩ | ⟨g, Z, rfl, hb, hB, hn, hcm, hfit⟩
    · have hx : xs = [] := List.eq_nil_of_length_eq_zero (by simpa using h.1)
      subst hx
      obtain ⟨v', w', hrun, ho, hg, _⟩ := run_append_own (P := P) w w.heap.size t ty e i z k bytes ht hi hz hk hby hzs hk0 (.slice none 0 0) 0 [] (World.ownsRow_nil w w.heap.size e k) ⟨bx, ox, none⟩ m cx news hr.1 hnews h1 h63 hbytes (Nat.le_refl _)
      obtain ⟨A', c', rfl⟩ := own_slice ho
      exact ⟨A', c', w', hrun, Ow.of_own (own_base ho hbase), hg, fun g hg => .inr ((Ow.of_own ho).low g hg), fun _ => ⟨hg, Ow.of_own ho⟩, fun _ => hg⟩
    · by_cases hroom : n + m ≤ c
      · have hl : xs.length = n * k := hown.1
        have hnl := hr.1
        have hfit2 : n * k + news.length ≤ (xs ++ Z).length := by
          rw [hnl, ← Nat.add_mul]; exact Nat.le_trans (Nat.mul_le_mul_right k hroom) hfit
        have hrun := run_append_room (P := P) w t ty e i ht hi g n c (xs ++ Z).toArray hB ⟨bx, ox, none⟩ m cx news (by rw [hk]; exact hr.1) hnews h1 hroom (by rw [hk]; simpa using hfit2)
        refine ⟨_, _, _, hrun, ⟨by rw [List.length_append, hl, hnl, Nat.add_mul], .inr ⟨g, Z.drop news.length, rfl, hb, ?_, hroom, hcm, ?_⟩⟩, grown_row _ _ _, fun g hg => .inl hg, fun h' => absurd h' (by omega), fun h' => absurd h' (by omega)⟩
        · have e1 : (xs ++ Z).take (n * k) = xs := by rw [← hl]; exact List.take_left
          have e2 : (xs ++ Z).drop (n * k + news.length) = Z.drop news.length := by
            rw [← hl, List.drop_append, List.drop_of_length_le (by omega), List.nil_append]
            congr 1; omega
          have := hB.row (xs ++ news ++ Z.drop news.length).toArray
          rw [hk]
          simp only [e1, e2]
          exact this
        · simp only [List.length_append, List.length_drop] at hfit hfit2 ⊢; omega
      · obtain ⟨v', w', hrun, ho, hg⟩ := run_append_arg_grows (P := P) w t ty e i z k bytes ht hi hz hk hby hzs hk0 ⟨g, 0, none⟩ n c xs hown.1 (fun j u hu => by rw [add_zero_spot, Nat.zero_add]; exact (hown.cell rfl hu).1) ⟨bx, ox, none⟩ m cx news hr.1 hnews (by omega) h63 hbytes
        obtain ⟨A', c', rfl⟩ := own_slice ho
        exact ⟨A', c', w', hrun, Ow.of_own (own_base ho hbase), ⟨hg.os, hg.tape, hg.output, hg.size, fun k hk _ => hg.block k hk (by simp)⟩, fun g hg => .inr ((Ow.of_own ho).low g hg), fun _ => ⟨hg, Ow.of_own ho⟩, fun _ => hg⟩

theorem wpList_app2 {w : World} {ops : Array Oper} {rest : List Oper} {o : Oper} {a : Act} {Q : Exit → Act → World → Prop} (hgd : o.guard = none) (s x : Operand) (t : TypeId)
    (ho : o.op = .call { callee := .builtin .append, args := #[s, x], argTypes := #[t, t] })
    (base : Nat) (e : TypeId) (z : Value) (k bytes : Nat) (ht : P.underlying t = some (.slice e)) (hi : (P.info? e).map (fun i => (i.zero, i.size, i.bytes)) = some (some z, k, bytes)) (hzs : z.cells.size = k) (hk0 : 0 < k)
    (A : Option Addr) (n c : Nat) (xs : List Value) (hs : a.eval s = .slice A n c) (hown : Ow w base e k A n c xs)
    (B : Nat) (X : Option Addr) (cx m : Nat) (news : List Value) (hx : a.eval x = .slice X m cx) (hr : Rd w B X cx k m news) (h1 : ∀ u ∈ news, u.oneCell' = true)
    (h63 : n + m ≤ maxLen) (hbytes : (n + m) * bytes ≤ 140737488355328) (hbase : base ≤ w.heap.size)
    (h : ∀ A' c' w', Ow w' base e k A' (n + m) c' (xs ++ news) → w.grownBy w' (bk A) → (∀ g, bk A' = Option.some g → bk A = Option.some g ∨ w.heap.size ≤ g) → wpList P ops Q rest (a.put o.dst (.slice A' (n + m) c')) w') : wpList P ops Q (o :: rest) a w := by
  refine wpList_plain hgd fun K hK => ?_
  obtain ⟨i, hi0, hz, hk, hby⟩ := info_parts hi
  obtain ⟨A', c', w', hrun, h2, h3, h4, _⟩ := run_app (P := P) w t o.type e i z k bytes ht hi0 hz hk hby hzs hk0 hown hr h1 h63 hbytes hbase
  unfold Oper.wp execOp
  simp only [ho, resolve, invoke, builtin, Sem.run_bind, Sem.run_pure, Result.andThen_ok, List.map_toArray, List.map_cons, List.map_nil, hs, hx, hrun]
  exact hK _ _ (h A' c' w' h2 h3 h4)

/-- Where its capacity is its length: nothing old is written. -/
theorem wpList_appH {w : World} {ops : Array Oper} {rest : List Oper} {o : Oper} {a : Act} {Q : Exit → Act → World → Prop} (hgd : o.guard = none) (s x : Operand) (t : TypeId)
    (ho : o.op = .call { callee := .builtin .append, args := #[s, x], argTypes := #[t, t] })
    (base : Nat) (e : TypeId) (z : Value) (k bytes : Nat) (ht : P.underlying t = some (.slice e)) (hi : (P.info? e).map (fun i => (i.zero, i.size, i.bytes)) = some (some z, k, bytes)) (hzs : z.cells.size = k) (hk0 : 0 < k)
    (A : Option Addr) (n c : Nat) (xs : List Value) (hs : a.eval s = .slice A n c) (hown : Ow w base e k A n c xs)
    (B : Nat) (X : Option Addr) (cx m : Nat) (news : List Value) (hx : a.eval x = .slice X m cx) (hr : Rd w B X cx k m news) (h1 : ∀ u ∈ news, u.oneCell' = true)
    (h63 : n + m ≤ maxLen) (hbytes : (n + m) * bytes ≤ 140737488355328) (hbase : base ≤ w.heap.size) (hfull : c = n)
    (h : ∀ A' c' w', Ow w' base e k A' (n + m) c' (xs ++ news) → w.grownBy w' none → wpList P ops Q rest (a.put o.dst (.slice A' (n + m) c')) w') : wpList P ops Q (o :: rest) a w := by
  refine wpList_plain hgd fun K hK => ?_
  obtain ⟨i, hi0, hz, hk, hby⟩ := info_parts hi
  obtain ⟨A', c', w', hrun, h2, _, _, _, h3⟩ := run_app (P := P) w t o.type e i z k bytes ht hi0 hz hk hby hzs hk0 hown hr h1 h63 hbytes hbase
  unfold Oper.wp execOp
  simp only [ho, resolve, invoke, builtin, Sem.run_bind, Sem.run_pure, Result.andThen_ok, List.map_toArray, List.map_cons, List.map_nil, hs, hx, hrun]
  exact hK _ _ (h A' c' w' h2 (h3 hfull))

/-- Where it does not fit: the row is new. -/
theorem wpList_appG {w : World} {ops : Array Oper} {rest : List Oper} {o : Oper} {a : Act} {Q : Exit → Act → World → Prop} (hgd : o.guard = none) (s x : Operand) (t : TypeId)
    (ho : o.op = .call { callee := .builtin .append, args := #[s, x], argTypes := #[t, t] })
    (base : Nat) (e : TypeId) (z : Value) (k bytes : Nat) (ht : P.underlying t = some (.slice e)) (hi : (P.info? e).map (fun i => (i.zero, i.size, i.bytes)) = some (some z, k, bytes)) (hzs : z.cells.size = k) (hk0 : 0 < k)
    (A : Option Addr) (n c : Nat) (xs : List Value) (hs : a.eval s = .slice A n c) (hown : Ow w base e k A n c xs)
    (B : Nat) (X : Option Addr) (cx m : Nat) (news : List Value) (hx : a.eval x = .slice X m cx) (hr : Rd w B X cx k m news) (h1 : ∀ u ∈ news, u.oneCell' = true)
    (h63 : n + m ≤ maxLen) (hbytes : (n + m) * bytes ≤ 140737488355328) (hbase : base ≤ w.heap.size) (hfull : c < n + m)
    (h : ∀ A' c' w', Ow w' w.heap.size e k A' (n + m) c' (xs ++ news) → w.grownBy w' none → wpList P ops Q rest (a.put o.dst (.slice A' (n + m) c')) w') : wpList P ops Q (o :: rest) a w := by
  refine wpList_plain hgd fun K hK => ?_
  obtain ⟨i, hi0, hz, hk, hby⟩ := info_parts hi
  obtain ⟨A', c', w', hrun, _, _, _, h2, _⟩ := run_app (P := P) w t o.type e i z k bytes ht hi0 hz hk hby hzs hk0 hown hr h1 h63 hbytes hbase
  unfold Oper.wp execOp
  simp only [ho, resolve, invoke, builtin, Sem.run_bind, Sem.run_pure, Result.andThen_ok, List.map_toArray, List.map_cons, List.map_nil, hs, hx, hrun]
  exact hK _ _ (h A' c' w' (h2 hfull).2 (h2 hfull).1)

/-- 'l[:m:m]' ahead of its region. -/
theorem run_head {w : World} (t e : TypeId) {z : Option Value} {k bytes : Nat} (ht : P.underlying t = some (.slice e)) (hi : (P.info? e).map (fun i => (i.zero, i.size, i.bytes)) = some (z, k, bytes))
    (A : Option Addr) (n c m : Nat) (hm : m ≤ c) : (Instr.sliceAt t (.slice A n c) none (some (.int .i64 m)) (some (.int .i64 m))).run P w = .ok (.slice A m m) w := by
  obtain ⟨i, hi0, hzz⟩ := Option.map_eq_some_iff.1 hi
  have el : P.elem t = e := by simp [Program.elem, ht]
  have ht' : P.underlying t = some (.slice (P.elem t)) := by rw [el]; exact ht
  have hs : (sizeOf (P.elem t)).run P w = .ok k w := by rw [el]; simp [sizeOf, typeInfo, hi0]; simp only [Prod.mk.injEq] at hzz; exact hzz.2.1
  have h3 : (Instr.sliceAt t (.slice A n c) none (some (.int .i64 m)) (some (.int .i64 m))).run P w = (Instr.slice t (.slice A n c) none (some (.int .i64 m)) (some (.int .i64 m))).run P w := by
    simp [Instr.sliceAt, run_underlying ht]
  have h4 : (0 : Int) ≤ (m : Int) := by omega
  rw [h3]
  simp [Instr.slice, run_underlying ht', Instr.sliceBounds, run_sliceBound, hs, hm]
  intro _
  cases A <;> simp [Addr.add]
theorem run_headOp {w : World} {dst : Option Tmp} {t : TypeId} {x y z : Operand} {ty : TypeId} {pos : String} {after : Array Edge} {guard : Option (Nat × Bool)} {ρ : Operand → Value} (e : TypeId) {zz : Option Value} {k bytes : Nat} (ht : P.underlying t = some (.slice e)) (hi : (P.info? e).map (fun i => (i.zero, i.size, i.bytes)) = some (zz, k, bytes))
    {A : Option Addr} {n c m : Nat} (hm : m ≤ c) (hx : ρ x = .slice A n c) (hy : ρ y = .int .i64 m) (hz : ρ z = .int .i64 m) :
    (execOp ρ { dst, op := .slice t x none (some y) (some z), type := ty, pos, after, guard }).run P w = .ok (.value (.slice A m m)) w := by
  unfold execOp
  simp only [Option.map_none, Option.map_some, hx, hy, hz, Sem.run_bind, run_head (P := P) t e ht hi A n c m hm, Result.andThen_ok, Sem.run_pure]
end
end Go.Proofs.YtfijjdahoimoeaaDoor

/- An entry loaded in a region that draws. -/
namespace Go.Proofs.YtfijjdahoimoeaaDoor
open Go.RowKit

theorem rangeAt_below {w w' : World} {B b o : Nat} {xs : List Value} (h : w.rangeAt b o xs) (hb : Below B w w') (hlt : b < B) : w'.rangeAt b o xs := fun j v hv => (hb.cell (p := ⟨b, o + j, none⟩) hlt).trans (h j v hv)
theorem Blk.range {w : World} {g : Nat} {t : TypeId} {xs : List Value} (h : Blk w g t xs) : w.rangeAt g 0 xs := fun j v hv => by rw [Nat.zero_add]; exact h.cell hv
/-- An entry is loaded, in a region that draws. -/
theorem run_loadE {w : World} {dst : Option Tmp} {x : Operand} {ty : TypeId} {pos : String} {after : Array Edge} {guard : Option (Nat × Bool)} {ρ : Operand → Value} {b o : Nat} {e : Ent}
    (hr : w.rangeAt b o (ecs e)) (hx : ρ x = .pointer (some ⟨b, o, none⟩)) :
    (execOp ρ { dst, op := .load 70 x, type := ty, pos, after, guard }).run Tryd.prog w = .ok (.value (ev e)) w := by
  have := run_loadAt_mid (P := Tryd.prog) w b o 70 (ecs e) _ hr Tryd.underlying70 rfl (by kernel_rfl)
  unfold execOp
  simp only [hx, Sem.run_bind, this, Result.andThen_ok, Sem.run_pure]
  rfl

end Go.Proofs.YtfijjdahoimoeaaDoor

