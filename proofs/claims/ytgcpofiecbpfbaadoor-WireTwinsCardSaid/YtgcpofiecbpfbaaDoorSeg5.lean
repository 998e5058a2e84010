/- Contract of unfold. -/
import Derived.Test.YtgcpofiecbpfbaaDoorSeg2
import Derived.Test.YtgcpofiecbpfbaaDoorSeg1
import Derived.Test.YtgcpofiecbpfbaaDoorSeg4
import Derived.Test.YtgcpofiecbpfbaaDoorSeg3
namespace Go.Proofs.YtgcpofiecbpfbaaDoor
open Go.RowKit

theorem unfold_c (u : Nat) (w : World) (h2 : u < 18446744073709551616) :
    Calls Tryd.prog 61 #[.int .u64 u] w fun e w' => e = .returned (.int .i64 (PNum.unzig u)) ∧ w = w' := by
  have key : bits BinOp.xor IntKind.i64 ((u : Int) / 2) (wrap64 (-wrap64 (bits BinOp.and IntKind.u64 (↑u) 1))) = PNum.unzig u := by
    rw [Lib.u64_and1 _ (by omega) (by omega)]
    by_cases hn : u % 2 = 0
    · have e : (u : Int) % 2 = 0 := by omega
      have e1 : ((u : Int) / 2) = ((u / 2 : Nat) : Int) := by omega
      rw [e, e1, show wrap64 (-wrap64 0) = 0 from by unfold wrap64; decide]
      unfold PNum.unzig; rw [if_pos hn]
      show IntKind.i64.wrap ((BitVec.ofInt 64 ((u / 2 : Nat) : Int) ^^^ BitVec.ofInt 64 0).toNat : Int) = _
      have h2 : (BitVec.ofInt 64 ((u / 2 : Nat) : Int)).toNat = u / 2 := by
        rw [BitVec.ofInt_natCast, BitVec.toNat_ofNat]; exact Nat.mod_eq_of_lt (by omega)
      have h3 : (BitVec.ofInt 64 0).toNat = 0 := by decide
      rw [BitVec.toNat_xor, h2, h3, Nat.xor_zero, IntKind.wrap_i64]; omega
    · have e : (u : Int) % 2 = 1 := by omega
      have e1 : ((u : Int) / 2) = ((u / 2 : Nat) : Int) := by omega
      have e2 : wrap64 (-wrap64 1) = -1 := by unfold wrap64; decide
      rw [e, e1, e2]
      unfold PNum.unzig; rw [if_neg hn]
      have := Lib.i64_not (u / 2) (by omega)
      rw [← this]
      show IntKind.i64.wrap ((BitVec.ofInt 64 ((u / 2 : Nat) : Int) ^^^ BitVec.ofInt 64 (-1)).toNat : Int) = IntKind.i64.wrap ((BitVec.ofInt 64 (-1) ^^^ BitVec.ofInt 64 ((u / 2 : Nat) : Int)).toNat : Int)
      rw [BitVec.xor_comm]
  have K := Lib.hid key; clear key
  go_enter Tryd.func61, Tryd.ntmps61
  go_wp2
  go_ret
  exact ⟨congrArg (fun x => Ending.returned (.int .i64 x)) K.out, rfl⟩

end Go.Proofs.YtgcpofiecbpfbaaDoor

/- Contract of num.Get. -/
namespace Go.Proofs.YtgcpofiecbpfbaaDoor
open Go.RowKit

/-- A number, how many bytes, an error, as Go hands them back. -/
def tup3 (r : Int × Int × Int) : Value := .tuple #[.int .i64 r.1, .int .i64 r.2.1, .int .i64 r.2.2]

theorem and_lo (x : Int) (h0 : 0 ≤ x) (h : x < 128) : bits BinOp.and IntKind.u8 x 128 = 0 := by
  rw [u8_and _ _ h0 (by omega) (by omega) (by omega), show (128 : Int).toNat = 128 from rfl, nat_bit7]; omega
theorem and_hi (x : Int) (h0 : 128 ≤ x) (h : x < 256) : bits BinOp.and IntKind.u8 x 128 = 128 := by
  rw [u8_and _ _ (by omega) h (by omega) (by omega), show (128 : Int).toNat = 128 from rfl, nat_bit7]; omega
theorem andNot_ (x : Int) (h0 : 0 ≤ x) (h : x < 256) : bits BinOp.andNot IntKind.u8 x 128 = ((x.toNat % 128 : Nat) : Int) := by
  rw [u8_andNot _ _ h0 h (by omega) (by omega), show (255 - (128 : Int).toNat) = 127 from rfl, nat_mask7]
theorem gather (acc i : Nat) (x : Int) (h0 : 0 ≤ x) (h : x < 256) (hi : i ≤ 9) (ha : acc < 128 ^ i) (hb : (x.toNat % 128) * 128 ^ i < 18446744073709551616) :
    bits BinOp.or IntKind.u64 (acc : Int) (IntKind.u64.wrap (IntKind.u64.wrap (bits BinOp.andNot IntKind.u8 x 128) * 2 ^ (7 * i))) = ((acc + (x.toNat % 128) * 128 ^ i : Nat) : Int) := by
  rw [andNot_ x h0 h]
  have hy : x.toNat % 128 < 128 := Nat.mod_lt _ (by decide)
  generalize x.toNat % 128 = y at hb hy
  have e : (2 : Nat) ^ (7 * i) = 128 ^ i := by rw [Nat.pow_mul]
  have h9 : (128 : Nat) ^ i ≤ 128 ^ 9 := Nat.pow_le_pow_right (by decide) hi
  have h99 : (128 : Nat) ^ 9 = 9223372036854775808 := by decide
  have e1 : IntKind.u64.wrap (y : Int) = y := by rw [IntKind.wrap_u64]; omega
  have e2 : (y : Int) * 2 ^ (7 * i) = ((y * 128 ^ i : Nat) : Int) := by rw [← e]; push_cast; rfl
  have e3 : IntKind.u64.wrap ((y * 128 ^ i : Nat) : Int) = ((y * 128 ^ i : Nat) : Int) := by rw [IntKind.wrap_u64]; omega
  rw [e1, e2, e3, u64_or_nat _ _ (by omega) hb, Nat.or_comm, nat_join (7 * i) _ _ (by rw [e]; exact Nat.mul_mod_left _ _) (by rw [e]; exact ha), Nat.add_comm]

theorem acc_next (acc i : Nat) (x : Int) (ha : acc < 128 ^ i) : acc + (x.toNat % 128) * 128 ^ i < 128 ^ (i + 1) := by
  have hy : x.toNat % 128 < 128 := Nat.mod_lt _ (by decide)
  rw [Nat.pow_succ]
  have := Nat.mul_le_mul_right (128 ^ i) (Nat.le_of_lt_succ hy : x.toNat % 128 ≤ 127)
  omega
theorem room (i : Nat) (x : Int) (hi : i ≤ 9) (h9 : ¬ (i = 9 ∧ 1 < x)) : (x.toNat % 128) * 128 ^ i < 18446744073709551616 := by
  have hy : x.toNat % 128 < 128 := Nat.mod_lt _ (by decide)
  by_cases e : i = 9
  · subst e
    have : x.toNat % 128 ≤ 1 := by omega
    have := Nat.mul_le_mul_right (128 ^ 9) this
    omega
  · have h8 : (128 : Nat) ^ i ≤ 128 ^ 8 := Nat.pow_le_pow_right (by decide) (by omega)
    have := Nat.mul_le_mul (Nat.le_of_lt_succ hy : x.toNat % 128 ≤ 127) h8
    omega

theorem accU (acc i : Nat) (x : Int) (hi : i ≤ 9) (h9 : ¬ (i = 9 ∧ 1 < x)) (ha : acc < 128 ^ i) : acc + (x.toNat % 128) * 128 ^ i < 18446744073709551616 := by
  by_cases e : i = 9
  · subst e
    have : x.toNat % 128 ≤ 1 := by omega
    have := Nat.mul_le_mul_right (128 ^ 9) this
    omega
  · have := acc_next acc i x ha
    have h8 : (128 : Nat) ^ (i + 1) ≤ 128 ^ 9 := Nat.pow_le_pow_right (by decide) (by omega)
    omega

set_option maxRecDepth 100000 in
theorem Get_c (w : World) (B : Nat) (A : Option Addr) (c n : Nat) (l : List Int) (h : Rd w B A c 1 n (bs l)) (hb : isB l) :
    Calls Tryd.prog 54 #[.slice A n c] w fun e w' => e = .returned (tup3 (PNum.getB 0 0 l)) ∧ w = w' := by
  have hlen := h.blen
  have HL := Lib.hid hlen; clear hlen
  have hm := h.le
  have hm2 := h.cap
  have hn : n ≤ 9223372036854775807 := by unfold maxLen at hm2; omega
  clear hm hm2
  go_enter Tryd.func54, Tryd.ntmps54
  go_wp2
  go_loop [5, 10] (fun s5 s10 => ∃ (i acc : Nat), s5 = .int .u64 acc ∧ s10 = .int .i64 i ∧ i ≤ n ∧ i ≤ 9 ∧ acc < 128 ^ i ∧ PNum.getB i acc (l.drop i) = PNum.getB 0 0 l)
    (fun _ s10 => n - (intOf s10).toNat)
  case atStart => exact ⟨0, 0, rfl, rfl, by omega, by omega, by decide, rfl⟩
  case round =>
    obtain ⟨i, acc, rfl, rfl, hi, hi9, hacc, hg⟩ := hrel
    have HG := Lib.hid hg; clear hg
    have HA := Lib.hid hacc; clear hacc
    by_cases hlt : i < n
    · obtain ⟨b, o, x, rfl, hc, hd, hx0, hx1, hxl⟩ := h.byte hb hlt
      clear hxl
      have HD := Lib.hid hd; clear hd
      by_cases h9 : i = 9 ∧ 1 < x
      · obtain ⟨rfl, h1⟩ := h9
        go_wp2
        go_ret3
        refine ⟨?_, rfl⟩
        rw [← HG.out, HD.out, PNum.getB, if_pos ⟨rfl, h1⟩]; rfl
      · have HJ := Lib.hid h9
        have hj := gather acc i x hx0 hx1 hi9 HA.out (room i x hi9 h9)
        by_cases h128 : x < 128
        · have hz := and_lo x hx0 h128
          have hU := accU acc i x hi9 h9 HA.out
          have HU := Lib.hid hU; clear hU h9
          by_cases h0 : x = 0 ∧ 0 < i
          · obtain ⟨rfl, h1⟩ := h0
            by_cases e9 : i = 9
            · have t9 : ((i : Int) == 9) = true := by simp; omega
              have E9 := Lib.hid e9; clear e9
              go_wp2
              go_ret3
              refine ⟨?_, rfl⟩
              rw [← HG.out, HD.out, PNum.getB, if_neg (by omega), if_pos (by omega), if_pos ⟨rfl, h1⟩]; rfl
            · have t9 : ((i : Int) == 9) = false := by simp; omega
              go_wp2
              go_ret3
              refine ⟨?_, rfl⟩
              rw [← HG.out, HD.out, PNum.getB, if_neg (by omega), if_pos (by omega), if_pos ⟨rfl, h1⟩]; rfl
          · have fin : PNum.getB 0 0 l = (PNum.unzig (acc + x.toNat % 128 * 128 ^ i), (i : Int) + 1, 0) := by
              rw [← HG.out, HD.out, PNum.getB, if_neg HJ.out, if_pos h128, if_neg h0]
              have : x.toNat % 128 = x.toNat := by omega
              rw [this]
            have FIN := Lib.hid fin; clear fin
            generalize acc + x.toNat % 128 * 128 ^ i = U at *
            by_cases e9 : i = 9
            · have t9 : ((i : Int) == 9) = true := by simp; omega
              have hx : ¬ 1 < x := by have := HJ.out; omega
              have E9 := Lib.hid e9; clear e9
              have t0 : (x == 0) = false := by have := E9.out; simp; omega
              go_wp2_with fail
              refine (unfold_c U w HU.out).mono ?_
              rintro e w' ⟨rfl, rfl⟩
              go_wp2
              go_ret3
              exact ⟨by rw [FIN.out]; rfl, rfl⟩
            · have t9 : ((i : Int) == 9) = false := by simp; omega
              by_cases e0 : x = 0
              · have t0 : (x == 0) = true := by simp; omega
                have i0 : ¬ 0 < i := by omega
                have E0 := Lib.hid e0; clear e0 h0
                go_wp2_with fail
                refine (unfold_c U w HU.out).mono ?_
                rintro e w' ⟨rfl, rfl⟩
                go_wp2
                go_ret3
                exact ⟨by rw [FIN.out]; rfl, rfl⟩
              · have t0 : (x == 0) = false := by simp; omega
                clear h0
                go_wp2_with fail
                refine (unfold_c U w HU.out).mono ?_
                rintro e w' ⟨rfl, rfl⟩
                go_wp2
                go_ret3
                exact ⟨by rw [FIN.out]; rfl, rfl⟩
        · have hz := and_hi x (by omega) hx1
          have t9 : ((i : Int) == 9) = false := by simp; omega
          have nxt := acc_next acc i x HA.out
          have fin : PNum.getB (i + 1) (acc + x.toNat % 128 * 128 ^ i) (l.drop (i + 1)) = PNum.getB 0 0 l := by
            rw [← HG.out, HD.out, PNum.getB, if_neg h9, if_neg h128]
            have : x.toNat % 128 = x.toNat - 128 := by omega
            rw [this]
          have FIN := Lib.hid fin; clear fin
          have NXT := Lib.hid nxt; clear nxt h9
          generalize acc + x.toNat % 128 * 128 ^ i = U at *
          go_wp2
          go_round
          case rel => exact ⟨i + 1, U, rfl, by go_num, by omega, by have := HJ.out; omega, NXT.out, FIN.out⟩
          case measure => simp [intOf]; omega
    · go_wp2
      go_ret3
      refine ⟨?_, rfl⟩
      have h1 := HG.out
      rw [List.drop_of_length_le (by have := HL.out; omega)] at h1
      rw [← h1]; rfl

end Go.Proofs.YtgcpofiecbpfbaaDoor

/- Contract of num.GetText. -/
namespace Go.Proofs.YtgcpofiecbpfbaaDoor
open Go.RowKit

/-- A text, how many bytes, an error, as Go hands them back. -/
def tupT (r : List Int × Int × Int) : Value := .tuple #[.string (strOfNums r.1), .int .i64 r.2.1, .int .i64 r.2.2]
theorem str_nil : strOfNums [] = ⟨#[]⟩ := rfl

set_option maxRecDepth 100000 in
theorem GetText_c (w : World) (B : Nat) (A : Option Addr) (c n : Nat) (l : List Int) (h : Rd w B A c 1 n (bs l)) (hb : isB l) (hn : n ≤ 1000000000000) :
    Calls Tryd.prog 62 #[.slice A n c] w fun e w' => e = .returned (tupT (PNum.getT l)) ∧ w = w' := by
  have hlen := h.blen
  have hle := h.le
  have hcap := h.cap
  have HN := Lib.hid hn; clear hn
  have HL := Lib.hid hlen; clear hlen
  have HC := Lib.hid hcap; clear hcap
  have herr := PNum.getB_err l 0 0
  have hok := PNum.getB_ok l 0 0
  obtain ⟨⟨x, k, er⟩, hg⟩ : ∃ r, PNum.getB 0 0 l = r := ⟨_, rfl⟩
  rw [hg] at herr hok
  have HG := Lib.hid hg; clear hg
  by_cases h0 : er = 0
  · subst h0
    obtain ⟨hx1, hx2, hk1, hk2⟩ := hok x k hb (by omega) (by decide) rfl
    clear hok herr
    have hX := Lib.hid (And.intro hx1 hx2); clear hx1 hx2
    rw [HL.out] at hk2
    simp at hk1 hk2
    by_cases hneg : x < 0
    · go_enter Tryd.func62, Tryd.ntmps62
      go_wp2_with fail
      refine (Get_c w B A c n l h hb).mono ?_
      rintro e w' ⟨rfl, rfl⟩
      rw [HG.out]
      simp only [tup3]
      go_wp2
      go_ret3
      refine ⟨?_, rfl⟩
      rw [PNum.getT, HG.out, if_pos rfl, if_pos (.inl hneg)]; rfl
    · by_cases hbig : 65536 < x
      · go_enter Tryd.func62, Tryd.ntmps62
        go_wp2_with fail
        refine (Get_c w B A c n l h hb).mono ?_
        rintro e w' ⟨rfl, rfl⟩
        rw [HG.out]
        simp only [tup3]
        go_wp2
        go_ret3
        refine ⟨?_, rfl⟩
        rw [PNum.getT, HG.out, if_pos rfl, if_pos (.inr hbig)]; rfl
      · by_cases hlong : (n : Int) < k + x
        · go_enter Tryd.func62, Tryd.ntmps62
          go_wp2_with fail
          refine (Get_c w B A c n l h hb).mono ?_
          rintro e w' ⟨rfl, rfl⟩
          rw [HG.out]
          simp only [tup3]
          have hn := HN.out
          go_wp2
          go_ret3
          refine ⟨?_, rfl⟩
          rw [PNum.getT, HG.out, if_pos rfl, if_neg (by simp; omega), if_pos (by rw [HL.out]; exact hlong)]; rfl
        · obtain ⟨xn, rfl⟩ := Int.eq_ofNat_of_zero_le (show 0 ≤ x by omega)
          obtain ⟨kn, rfl⟩ := Int.eq_ofNat_of_zero_le (show 0 ≤ k by omega)
          have hn := HN.out
          go_enter Tryd.func62, Tryd.ntmps62
          go_wp2_with fail
          refine (Get_c w B A c n l h hb).mono ?_
          rintro e w' ⟨rfl, rfl⟩
          rw [HG.out]
          simp only [tup3]
          go_wp2_with (with_reducible show wpList _ _ _ ((⟨some 34, Op.slice 29 _ _ _ _, _, _, _, _⟩ : Oper) :: _) _ _
                       go_must (refine wpList_cut rfl 29 (.tmp 31) _ _ rfl 5 _ 1 1 Tryd.underlying29 byte_info B A c n (bs l) rfl h kn (kn + xn) (.inr rfl) (.inr rfl) (by omega) (by omega) ?_))
          intro A' c' hr'
          have e1 : kn + xn - kn = xn := by omega
          try rw [e1] at hr'
          try rw [e1]
          simp only [← bs_drop, ← bs_take] at hr'
          refine wpList_toStr rfl 29 9 (.tmp 34) rfl 5 Tryd.underlying29 Tryd.underlying5 Tryd.underlying9 B A' c' xn _ rfl hr' ?_
          go_wp2
          go_ret3
          refine ⟨?_, rfl⟩
          rw [PNum.getT, HG.out, if_pos rfl, if_neg (by simp; omega), if_neg (by rw [HL.out]; show ¬ (n : Int) < (kn : Int) + (xn : Int); omega)]; rfl
  · go_enter Tryd.func62, Tryd.ntmps62
    go_wp2_with fail
    refine (Get_c w B A c n l h hb).mono ?_
    rintro e w' ⟨rfl, rfl⟩
    rw [HG.out]
    simp only [tup3]
    have e0 : (er == 0) = false := by simp; omega
    go_wp2
    go_ret3
    refine ⟨?_, rfl⟩
    rw [PNum.getT, HG.out, if_neg h0]; rfl

end Go.Proofs.YtgcpofiecbpfbaaDoor

/- Contracts of entryOf, decodeOne. -/
namespace Go.Proofs.YtgcpofiecbpfbaaDoor
open Go.RowKit

theorem results_cell_tmp2 {fn : Func} {p u v : Tmp} {ty : TypeId} (h : fn.results = #[.cell p ty, .tmp u, .tmp v]) (tmps : Array Value) (P : Program) (w : World) :
    (results fn tmps).run P w =
      ((asAddr (tmps.getD p undef)).run P w).andThen fun a w₁ => ((loadVar ty a).run P w₁).andThen fun x w₂ => .ok (.tuple #[x, tmps.getD u undef, tmps.getD v undef]) w₂ := by
  simp only [results, h]
  simp [Sem.run_bind, Result.andThen]
theorem results_row_tmp2 {P : Program} {fn : Func} {p u q : Tmp} {ty : TypeId} (h : fn.results = #[.cell p ty, .tmp u, .tmp q]) (tmps : Array Value) (w : World) (g : Nat) (t : TypeId) (cs : Array Value) (fr : Nat × Nat) (d : TypeDesc)
    {v z : Value} (hp : tmps.getD p undef = .pointer (some ⟨g, 0, none⟩)) (hv : tmps.getD u undef = v) (hz : tmps.getD q undef = z) (hg : w.heap[g]? = some (.cells cs t fr))
    (hu : P.underlying ty = some d) (hd : (match d with | .struct _ | .array _ _ => true | _ => false) = true) (hi : (P.info? ty).map (·.size) = some cs.size) :
    (results fn tmps).run P w = .ok (.tuple #[.agg cs, v, z]) w := by
  rw [results_cell_tmp2 h, hp, hv, hz]
  simp [asAddr, run_loadVar_row w g t ty cs fr d hg hu hd hi, Result.andThen]

set_option maxRecDepth 100000 in
theorem entryOf_c (w : World) (x0 x1 x2 x3 x4 x5 : Int) (d : ByteArray) : Calls Tryd.prog 63 #[.agg #[.int .i64 x0, .int .i64 x1, .int .i64 x2, .int .i64 x3, .int .i64 x4, .int .i64 x5], .string d] w fun x w' => x = .returned (ev ⟨x0, x1, x2, x3, x4, x5, d⟩) ∧ Below w.heap.size w w' := by
  go_enter Tryd.func63, Tryd.ntmps63
  go_wp2_with fail
  have K := Blk.newEnt (w.alloc (.cells #[.int .i64 x0, .int .i64 x1, .int .i64 x2, .int .i64 x3, .int .i64 x4, .int .i64 x5] 87)) 38 ⟨x0, x1, x2, x3, x4, x5, d⟩
  rw [show (w.alloc (.cells #[.int .i64 x0, .int .i64 x1, .int .i64 x2, .int .i64 x3, .int .i64 x4, .int .i64 x5] 87)).heap.size = w.heap.size + 1 by simp] at K
  refine bodyPost_ret (v := ev ⟨x0, x1, x2, x3, x4, x5, d⟩) (results_cell_row rfl _ _ (w.heap.size + 1) _ _ _ _ rfl K Tryd.underlying38 rfl (by kernel_rfl)) rfl ⟨rfl, ((Below.refl _ _).alloc (Nat.le_refl _) _).alloc (by simp) _⟩

/-- An entry, how many bytes, was there one, as Go hands them back. -/
def dtup : Option (Ent × Nat) → Value
  | some (e, k) => .tuple #[ev e, .int .i64 k, .bool true]
  | none => .tuple #[ev zeroE, .int .i64 0, .bool false]

theorem bs_tail {l : List Int} {n p : Nat} (h : l.length = n) : ((bs l).drop p).take (n - p) = bs (l.drop p) := by
  rw [← bs_drop, List.take_of_length_le (by rw [bs_length, List.length_drop]; omega)]
/-- The numbers that were read, then zeros. -/
def six (xs : List Int) : List Value := (xs ++ List.replicate (6 - xs.length) 0).map (Value.int .i64)
theorem six_set (xs : List Int) (x : Int) (h : xs.length < 6) : (six xs).set xs.length (.int .i64 x) = six (xs ++ [x]) := by
  unfold six
  rw [← List.map_set, List.set_append_right _ _ (by omega), Nat.sub_self]
  obtain ⟨k, hk⟩ : ∃ k, 6 - xs.length = k + 1 := ⟨5 - xs.length, by omega⟩
  have hk2 : 6 - (xs ++ [x]).length = k := by simp; omega
  rw [hk, hk2, List.replicate_succ, List.set_cons_zero]
  simp
theorem six_at (xs : List Int) (h : xs.length < 6) : (six xs)[xs.length]? = some (.int .i64 0) := by
  unfold six
  rw [List.getElem?_map, List.getElem?_append_right (by omega), Nat.sub_self, List.getElem?_replicate, if_pos (by omega)]; rfl
theorem six_len (xs : List Int) (h : xs.length ≤ 6) : (six xs).length = 6 := by simp [six]; omega

/-- The loop's invariant: xs were read of the first p bytes. -/
def N6 (l : List Int) (xs : List Int) (p : Nat) : Prop := PEnt.rdN 6 l = (PEnt.rdN (6 - xs.length) (l.drop p)).map fun q => (xs ++ q.1, p + q.2)
theorem N6.start (l : List Int) : N6 l [] 0 := by
  unfold N6
  simp
theorem N6.none {l xs : List Int} {p : Nat} (h : N6 l xs p) (hx : xs.length < 6) (he : (PNum.getB 0 0 (l.drop p)).2.2 ≠ 0) : PEnt.rdE l = none := by
  obtain ⟨k, hk⟩ : ∃ k, 6 - xs.length = k + 1 := ⟨5 - xs.length, by omega⟩
  unfold N6 at h
  rw [hk] at h
  unfold PEnt.rdE
  generalize PEnt.rdN 6 l = Q at *
  simp only [PEnt.rdN] at h
  rw [if_neg he] at h
  rw [h]; rfl
theorem N6.next {l xs : List Int} {p : Nat} {x : Int} {k : Nat} (h : N6 l xs p) (hx : xs.length < 6) (he : PNum.getB 0 0 (l.drop p) = (x, (k : Int), 0)) : N6 l (xs ++ [x]) (p + k) := by
  obtain ⟨j, hj⟩ : ∃ j, 6 - xs.length = j + 1 := ⟨5 - xs.length, by omega⟩
  have hj2 : 6 - (xs ++ [x]).length = j := by simp; omega
  unfold N6 at h ⊢
  rw [hj] at h
  rw [hj2]
  generalize PEnt.rdN 6 l = Q at *
  simp only [PEnt.rdN] at h
  rw [he, if_pos rfl] at h
  simp only [Int.toNat_natCast, List.drop_drop] at h
  rw [h]
  cases PEnt.rdN j (l.drop (p + k)) with
  | none => rfl
  | some q => simp [Nat.add_assoc]
theorem N6.done {l xs : List Int} {p : Nat} (h : N6 l xs p) (hx : xs.length = 6) : PEnt.rdE l = PEnt.rdT l xs p := by
  unfold N6 at h
  rw [hx] at h
  unfold PEnt.rdE
  generalize PEnt.rdN 6 l = Q at *
  simp only [Nat.sub_self, PEnt.rdN] at h
  rw [h]; simp
theorem list6' {xs : List Int} (h : xs.length = 6) : ∃ a b c d e f, xs = [a, b, c, d, e, f] := by
  match xs, h with
  | [a, b, c, d, e, f], _ => exact ⟨a, b, c, d, e, f, rfl⟩

set_option maxHeartbeats 4000000 in
set_option maxRecDepth 100000 in
theorem decodeOne_c (w : World) (B : Nat) (A : Option Addr) (c n : Nat) (l : List Int) (h : Rd w B A c 1 n (bs l)) (hb : isB l) (hn : n ≤ 1000000) :
    Calls Tryd.prog 55 #[.slice A n c] w fun x w' => x = .returned (dtup (PEnt.rdE l)) ∧ Below w.heap.size w w' := by
  have R0 := Lib.hid h.tight
  have HLn := Lib.hid h.blen
  have HB := Lib.hid hb
  clear h hb
  go_enter Tryd.func55, Tryd.ntmps55
  go_wp2_with fail
  have bel0 := ((Below.refl w.heap.size w).alloc (Nat.le_refl _) (.cells #[.int .i64 0, .int .i64 0, .int .i64 0, .int .i64 0, .int .i64 0, .int .i64 0, .string ⟨#[]⟩] 38)).alloc (by simp) (.cells #[.int .i64 0, .int .i64 0, .int .i64 0, .int .i64 0, .int .i64 0, .int .i64 0] 87)
  have K0 := (Blk.newEnt w 38 zeroE).alloc (.cells #[.int .i64 0, .int .i64 0, .int .i64 0, .int .i64 0, .int .i64 0, .int .i64 0] 87)
  have N0 := Blk.new (w.alloc (.cells #[.int .i64 0, .int .i64 0, .int .i64 0, .int .i64 0, .int .i64 0, .int .i64 0, .string ⟨#[]⟩] 38)) #[.int .i64 0, .int .i64 0, .int .i64 0, .int .i64 0, .int .i64 0, .int .i64 0] 87
  rw [show (w.alloc (.cells #[.int .i64 0, .int .i64 0, .int .i64 0, .int .i64 0, .int .i64 0, .int .i64 0, .string ⟨#[]⟩] 38)).heap.size = w.heap.size + 1 by simp] at N0
  have H0 : Hid (Below w.heap.size w _) := Lib.hid bel0
  have HK0 : Hid (Blk _ w.heap.size 38 (ecs zeroE)) := Lib.hid K0
  have HN0 : Hid (Blk _ (w.heap.size + 1) 87 (six [])) := Lib.hid N0
  clear bel0 K0 N0
  go_loopw [6, 7, 8, 9, 10, 15] (fun s6 _ _ _ _ s15 wr => ∃ (p : Nat) (xs : List Int), xs.length ≤ 6 ∧ p ≤ n ∧ s15 = .int .i64 xs.length ∧ s6 = .int .i64 p ∧ Hid (N6 l xs p) ∧
      Hid (Blk wr w.heap.size 38 (ecs zeroE)) ∧ Hid (Blk wr (w.heap.size + 1) 87 (six xs)) ∧ Hid (Below w.heap.size w wr))
    (fun _ _ _ _ _ s15 _ => 6 - (intOf s15).toNat)
  case atStart => exact ⟨0, [], by simp, by omega, rfl, rfl, Lib.hid (N6.start l), HK0, HN0, H0⟩
  case round =>
    clear H0 HK0 HN0
    obtain ⟨p, xs, hxl, hpn, rfl, rfl, HI, KE, KN, BL⟩ := hrel
    have RW := Lib.hid (R0.out.below BL.out)
    by_cases hlt : xs.length < 6
    · go_wp2_with (with_reducible show wpList _ _ _ ((⟨some 21, Op.slice 29 _ _ _ _, _, _, _, _⟩ : Oper) :: _) _ _
                   go_must (refine wpList_cut rfl 29 (.tmp 19) _ _ rfl 5 _ 1 1 Tryd.underlying29 byte_info _ A c n (bs l) rfl RW.out p n (.inr rfl) (.inl ⟨rfl, rfl⟩) (by omega) (by omega) ?_))
      intro A1 c1 hr1
      rw [bs_tail HLn.out] at hr1
      go_wp2_with fail
      refine (Get_c wr _ A1 c1 (n - p) (l.drop p) hr1 (HB.out.drop p)).mono ?_
      clear hr1
      obtain ⟨⟨x, k, er⟩, hg⟩ : ∃ r, PNum.getB 0 0 (l.drop p) = r := ⟨_, rfl⟩
      rw [hg]
      simp only [tup3]
      rintro e w1 ⟨rfl, rfl⟩
      by_cases h0 : er = 0
      · subst h0
        obtain ⟨_, g2, g3⟩ := PNum.getB_whole (HB.out.drop p) hg
        rw [List.length_drop, HLn.out] at g3
        obtain ⟨k, rfl⟩ := Int.eq_ofNat_of_zero_le (show 0 ≤ k by omega)
        have HI2 := Lib.hid (HI.out.next hlt hg)
        have HSet := Lib.hid (six_set xs x hlt)
        clear hg
        have q0 := KN.out.cell (six_at xs hlt)
        have q1 := KN.out.free xs.length
        have KN2 := Lib.hid (KN.out.set xs.length (.int .i64 x))
        have KE2 := Lib.hid (KE.out.far (grown_set wr (w.heap.size + 1) xs.length (.int .i64 x)) (by omega))
        have B2 := Lib.hid (BL.out.setCell (p := ⟨w.heap.size + 1, xs.length, none⟩) (Nat.le_succ _) (.int .i64 x))
        clear KN KE BL RW HI
        go_wp2_with fail
        go_roundw
        case rel => exact ⟨p + k, xs ++ [x], by simp; omega, by omega, by simp, by go_num, HI2, KE2, Lib.hid (by rw [← HSet.out]; exact KN2.out), B2⟩
        case measure => simp [intOf]; omega
      · have HF := Lib.hid (HI.out.none hlt (by rw [hg]; exact h0))
        have e0 : (er == 0) = false := by simpa using h0
        clear hg h0
        go_wp2_with ((with_reducible show wpList _ _ _ ((⟨none, Op.store 38 (.tmp 2) _, _, _, _, _⟩ : Oper) :: _) _ _); go_must (refine wpList_store_row rfl 38 (.tmp 2) (.tmp 28) rfl w.heap.size _ rfl rfl _ _ KE.out (by kernel_rfl) (by rfl) (by kernel_rfl) ?_))
        have K2 := KE.out.row #[.int .i64 0, .int .i64 0, .int .i64 0, .int .i64 0, .int .i64 0, .int .i64 0, .string ⟨#[]⟩]
        have B2 := grown_below (grown_row wr w.heap.size #[.int .i64 0, .int .i64 0, .int .i64 0, .int .i64 0, .int .i64 0, .int .i64 0, .string ⟨#[]⟩]) (Nat.le_refl _) BL.out.size
        refine bodyPost_ret (v := dtup none) (results_row_tmp2 rfl _ _ w.heap.size _ _ _ _ rfl rfl rfl K2 Tryd.underlying38 rfl (by kernel_rfl)) rfl ⟨by rw [HF.out], BL.out.trans B2⟩
    · have hx6 : xs.length = 6 := by omega
      have HD := Lib.hid (HI.out.done hx6)
      obtain ⟨x0, x1, x2, x3, x4, x5, rfl⟩ := list6' hx6
      have KN1 : Hid (Blk wr (w.heap.size + 1) 87 [.int .i64 x0, .int .i64 x1, .int .i64 x2, .int .i64 x3, .int .i64 x4, .int .i64 x5]) := Lib.hid KN.out
      have hl6 : ([x0, x1, x2, x3, x4, x5].length : Int) = 6 := rfl
      rw [hl6]
      clear hx6 hxl hlt HI KN hl6
      go_wp2_with (with_reducible show wpList _ _ _ ((⟨some 39, Op.slice 29 _ _ _ _, _, _, _, _⟩ : Oper) :: _) _ _
                   go_must (refine wpList_cut rfl 29 (.tmp 37) _ _ rfl 5 _ 1 1 Tryd.underlying29 byte_info _ A c n (bs l) rfl RW.out p n (.inr rfl) (.inl ⟨rfl, rfl⟩) (by omega) (by omega) ?_))
      intro A1 c1 hr1
      rw [bs_tail HLn.out] at hr1
      go_wp2_with fail
      refine (GetText_c wr _ A1 c1 (n - p) (l.drop p) hr1 (HB.out.drop p) (by omega)).mono ?_
      clear hr1
      obtain ⟨⟨s, k, er⟩, hg⟩ : ∃ r, PNum.getT (l.drop p) = r := ⟨_, rfl⟩
      rw [hg]
      simp only [tupT]
      rintro e w1 ⟨rfl, rfl⟩
      by_cases h0 : er = 0
      · subst h0
        obtain ⟨_, g2, g3, _⟩ := PNum.getT_whole (HB.out.drop p) hg
        rw [List.length_drop, HLn.out] at g3
        obtain ⟨k, rfl⟩ := Int.eq_ofNat_of_zero_le (show 0 ≤ k by omega)
        have HT := Lib.hid (show PEnt.rdE l = if PEnt.may ⟨x0, x1, x2, x3, x4, x5, strOfNums s⟩ = true then some (⟨x0, x1, x2, x3, x4, x5, strOfNums s⟩, p + k) else none by
          rw [HD.out]; unfold PEnt.rdT; rw [hg, if_pos rfl]; rfl)
        have q0 := KN1.out.cell (i := 0) rfl
        have q1 := KN1.out.cell (i := 1) rfl
        have q2 := KN1.out.cell (i := 2) rfl
        have q3 := KN1.out.cell (i := 3) rfl
        have q4 := KN1.out.cell (i := 4) rfl
        have q5 := KN1.out.cell (i := 5) rfl
        clear hg HD KN1 RW
        go_wp2_with fail
        clear q0 q1 q2 q3 q4 q5
        refine (entryOf_c wr x0 x1 x2 x3 x4 x5 (strOfNums s)).mono ?_
        rintro e w1 ⟨rfl, b1⟩
        have BL1 := Lib.hid (BL.out.trans (b1.mono BL.out.size))
        have KE1 := Lib.hid (KE.out.past b1)
        clear b1 BL KE
        simp only [ev]
        go_wp2_with fail
        have b1 := (Below.refl w1.heap.size w1).alloc (Nat.le_refl _) (.cells #[.int .i64 x0, .int .i64 x1, .int .i64 x2, .int .i64 x3, .int .i64 x4, .int .i64 x5, .string (strOfNums s)] 38)
        have KX := Blk.newEnt w1 38 ⟨x0, x1, x2, x3, x4, x5, strOfNums s⟩
        have KE3 := KE1.out.alloc (.cells #[.int .i64 x0, .int .i64 x1, .int .i64 x2, .int .i64 x3, .int .i64 x4, .int .i64 x5, .string (strOfNums s)] 38)
        generalize w1.alloc (.cells #[.int .i64 x0, .int .i64 x1, .int .i64 x2, .int .i64 x3, .int .i64 x4, .int .i64 x5, .string (strOfNums s)] 38) = w2 at *
        cases hy : PEnt.may ⟨x0, x1, x2, x3, x4, x5, strOfNums s⟩
        · have HR := Lib.hid (HT.out.trans (if_neg (by rw [hy]; simp)))
          refine (May_c w2 ⟨x0, x1, x2, x3, x4, x5, strOfNums s⟩).mono ?_
          rw [hy]
          rintro e w3 ⟨rfl, b3⟩
          have KE2 := Lib.hid (KE3.past b3)
          have B2 := Lib.hid ((BL1.out.trans (b1.mono BL1.out.size)).trans (b3.mono (Nat.le_trans BL1.out.size b1.size)))
          clear b1 b3 KX KE3 hy BL1 KE1 HT
          go_wp2_with ((with_reducible show wpList _ _ _ ((⟨none, Op.store 38 (.tmp 2) (.tmp 53), _, _, _, _⟩ : Oper) :: _) _ _); go_must (refine wpList_store_row rfl 38 (.tmp 2) (.tmp 53) rfl w.heap.size _ rfl rfl _ _ KE2.out (by kernel_rfl) (by rfl) (by kernel_rfl) ?_))
          have K2 := KE2.out.row #[.int .i64 0, .int .i64 0, .int .i64 0, .int .i64 0, .int .i64 0, .int .i64 0, .string ⟨#[]⟩]
          have B3 := grown_below (grown_row w3 w.heap.size #[.int .i64 0, .int .i64 0, .int .i64 0, .int .i64 0, .int .i64 0, .int .i64 0, .string ⟨#[]⟩]) (Nat.le_refl _) B2.out.size
          refine bodyPost_ret (v := dtup none) (results_row_tmp2 rfl _ _ w.heap.size _ _ _ _ rfl rfl rfl K2 Tryd.underlying38 rfl (by kernel_rfl)) rfl ⟨by rw [HR.out], B2.out.trans B3⟩
        · have HR := Lib.hid (HT.out.trans (if_pos hy))
          refine (May_c w2 ⟨x0, x1, x2, x3, x4, x5, strOfNums s⟩).mono ?_
          rw [hy]
          rintro e w3 ⟨rfl, b3⟩
          have KE2 := Lib.hid (KE3.past b3)
          have B2 := Lib.hid ((BL1.out.trans (b1.mono BL1.out.size)).trans (b3.mono (Nat.le_trans BL1.out.size b1.size)))
          obtain ⟨d0, d1, d2, d3, d4, d5, d6⟩ := (KX.past b3).ent
          clear b1 b3 KX KE3 hy BL1 KE1 HT
          go_wp2_with ((with_reducible show wpList _ _ _ ((⟨none, Op.store 38 (.tmp 2) (.tmp 54), _, _, _, _⟩ : Oper) :: _) _ _); go_must (refine wpList_store_row rfl 38 (.tmp 2) (.tmp 54) rfl w.heap.size _ rfl rfl _ _ KE2.out (by kernel_rfl) (by rfl) (by kernel_rfl) ?_))
          have K2 := KE2.out.row #[.int .i64 x0, .int .i64 x1, .int .i64 x2, .int .i64 x3, .int .i64 x4, .int .i64 x5, .string (strOfNums s)]
          have B3 := grown_below (grown_row w3 w.heap.size #[.int .i64 x0, .int .i64 x1, .int .i64 x2, .int .i64 x3, .int .i64 x4, .int .i64 x5, .string (strOfNums s)]) (Nat.le_refl _) B2.out.size
          have HP := Lib.hid (show (p : Int) + (k : Int) = ((p + k : Nat) : Int) by omega)
          refine bodyPost_ret (v := dtup (some (⟨x0, x1, x2, x3, x4, x5, strOfNums s⟩, p + k))) (results_row_tmp2 rfl _ _ w.heap.size _ _ _ _ rfl (by rw [← HP.out]; rfl) rfl K2 Tryd.underlying38 rfl (by kernel_rfl)) rfl ⟨by rw [HR.out], B2.out.trans B3⟩
      · have HF := Lib.hid (show PEnt.rdE l = none by
          rw [HD.out]; unfold PEnt.rdT; rw [hg, if_neg h0])
        have e0 : (er == 0) = false := by simpa using h0
        have KE2 := KE
        clear hg h0
        go_wp2_with ((with_reducible show wpList _ _ _ ((⟨none, Op.store 38 (.tmp 2) (.tmp 46), _, _, _, _⟩ : Oper) :: _) _ _); go_must (refine wpList_store_row rfl 38 (.tmp 2) (.tmp 46) rfl w.heap.size _ rfl rfl _ _ KE2.out (by kernel_rfl) (by rfl) (by kernel_rfl) ?_))
        have K2 := KE.out.row #[.int .i64 0, .int .i64 0, .int .i64 0, .int .i64 0, .int .i64 0, .int .i64 0, .string ⟨#[]⟩]
        have B2 := grown_below (grown_row wr w.heap.size #[.int .i64 0, .int .i64 0, .int .i64 0, .int .i64 0, .int .i64 0, .int .i64 0, .string ⟨#[]⟩]) (Nat.le_refl _) BL.out.size
        refine bodyPost_ret (v := dtup none) (results_row_tmp2 rfl _ _ w.heap.size _ _ _ _ rfl rfl rfl K2 Tryd.underlying38 rfl (by kernel_rfl)) rfl ⟨by rw [HF.out], BL.out.trans B2⟩
end Go.Proofs.YtgcpofiecbpfbaaDoor

/- Contract of getNumbers. -/
namespace Go.Proofs.YtgcpofiecbpfbaaDoor
open Go.RowKit

/-- Numbers, how many bytes, were they all there, as Go hands them back. -/
def gtup : Option (List Int × Nat) → Value
  | some (x, p) => .tuple #[nv13 x, .int .i64 p, .bool true]
  | none => .tuple #[nv13 (List.replicate 13 0), .int .i64 0, .bool false]

/-- The numbers that were read, then zeros. -/
def row13 (xs : List Int) : List Value := (xs ++ List.replicate (13 - xs.length) 0).map (Value.int .i64)
theorem row13_set (xs : List Int) (x : Int) (h : xs.length < 13) : (row13 xs).set xs.length (.int .i64 x) = row13 (xs ++ [x]) := by
  unfold row13
  rw [← List.map_set, List.set_append_right _ _ (by omega), Nat.sub_self]
  obtain ⟨k, hk⟩ : ∃ k, 13 - xs.length = k + 1 := ⟨12 - xs.length, by omega⟩
  have hk2 : 13 - (xs ++ [x]).length = k := by simp; omega
  rw [hk, hk2, List.replicate_succ, List.set_cons_zero]
  simp
theorem row13_at (xs : List Int) (h : xs.length < 13) : (row13 xs)[xs.length]? = some (.int .i64 0) := by
  unfold row13
  rw [List.getElem?_map, List.getElem?_append_right (by omega), Nat.sub_self, List.getElem?_replicate, if_pos (by omega)]; rfl

/-- The loop's invariant: xs were read of the first p bytes. -/
def N13 (l : List Int) (xs : List Int) (p : Nat) : Prop := PEnt.rdN 13 l = (PEnt.rdN (13 - xs.length) (l.drop p)).map fun q => (xs ++ q.1, p + q.2)
theorem N13.start (l : List Int) : N13 l [] 0 := by
  unfold N13
  simp
theorem N13.none {l xs : List Int} {p : Nat} (h : N13 l xs p) (hx : xs.length < 13) (he : (PNum.getB 0 0 (l.drop p)).2.2 ≠ 0) : PEnt.rdN 13 l = none := by
  obtain ⟨k, hk⟩ : ∃ k, 13 - xs.length = k + 1 := ⟨12 - xs.length, by omega⟩
  unfold N13 at h
  rw [hk] at h
  generalize PEnt.rdN 13 l = Q at *
  simp only [PEnt.rdN] at h
  rw [if_neg he] at h
  rw [h]; rfl
theorem N13.next {l xs : List Int} {p : Nat} {x : Int} {k : Nat} (h : N13 l xs p) (hx : xs.length < 13) (he : PNum.getB 0 0 (l.drop p) = (x, (k : Int), 0)) : N13 l (xs ++ [x]) (p + k) := by
  obtain ⟨j, hj⟩ : ∃ j, 13 - xs.length = j + 1 := ⟨12 - xs.length, by omega⟩
  have hj2 : 13 - (xs ++ [x]).length = j := by simp; omega
  unfold N13 at h ⊢
  rw [hj] at h
  rw [hj2]
  generalize PEnt.rdN 13 l = Q at *
  simp only [PEnt.rdN] at h
  rw [he, if_pos rfl] at h
  simp only [Int.toNat_natCast, List.drop_drop] at h
  rw [h]
  cases PEnt.rdN j (l.drop (p + k)) with
  | none => rfl
  | some q => simp [Nat.add_assoc]
theorem N13.done {l xs : List Int} {p : Nat} (h : N13 l xs p) (hx : xs.length = 13) : PEnt.rdN 13 l = some (xs, p) := by
  unfold N13 at h
  rw [hx] at h
  generalize PEnt.rdN 13 l = Q at *
  simp only [Nat.sub_self, PEnt.rdN] at h
  rw [h]; simp
theorem list13 {xs : List Int} (h : xs.length = 13) : ∃ x0 x1 x2 x3 x4 x5 x6 x7 x8 x9 x10 x11 x12, xs = [x0, x1, x2, x3, x4, x5, x6, x7, x8, x9, x10, x11, x12] := by
  match xs, h with
  | [x0, x1, x2, x3, x4, x5, x6, x7, x8, x9, x10, x11, x12], _ => exact ⟨x0, x1, x2, x3, x4, x5, x6, x7, x8, x9, x10, x11, x12, rfl⟩

set_option maxHeartbeats 4000000 in
set_option maxRecDepth 100000 in
theorem getNumbers_c (w : World) (B : Nat) (A : Option Addr) (c n : Nat) (l : List Int) (h : Rd w B A c 1 n (bs l)) (hb : isB l) (hn : n ≤ 1000000) :
    Calls Tryd.prog 37 #[.slice A n c] w fun x w' => x = .returned (gtup (PEnt.rdN 13 l)) ∧ Below w.heap.size w w' := by
  have R0 := Lib.hid h.tight
  have HLn := Lib.hid h.blen
  have HB := Lib.hid hb
  clear h hb
  go_enter Tryd.func37, Tryd.ntmps37
  go_wp2_with fail
  have bel0 := ((Below.refl w.heap.size w).alloc (Nat.le_refl _) (.cells #[.int .i64 0, .int .i64 0, .int .i64 0, .int .i64 0, .int .i64 0, .int .i64 0, .int .i64 0, .int .i64 0, .int .i64 0, .int .i64 0, .int .i64 0, .int .i64 0, .int .i64 0] 50)).alloc (by simp) (.cells #[.int .i64 0, .int .i64 0, .int .i64 0, .int .i64 0, .int .i64 0, .int .i64 0, .int .i64 0, .int .i64 0, .int .i64 0, .int .i64 0, .int .i64 0, .int .i64 0, .int .i64 0] 50)
  have K0 := (Blk.new w #[.int .i64 0, .int .i64 0, .int .i64 0, .int .i64 0, .int .i64 0, .int .i64 0, .int .i64 0, .int .i64 0, .int .i64 0, .int .i64 0, .int .i64 0, .int .i64 0, .int .i64 0] 50).alloc (.cells #[.int .i64 0, .int .i64 0, .int .i64 0, .int .i64 0, .int .i64 0, .int .i64 0, .int .i64 0, .int .i64 0, .int .i64 0, .int .i64 0, .int .i64 0, .int .i64 0, .int .i64 0] 50)
  have N0 := Blk.new (w.alloc (.cells #[.int .i64 0, .int .i64 0, .int .i64 0, .int .i64 0, .int .i64 0, .int .i64 0, .int .i64 0, .int .i64 0, .int .i64 0, .int .i64 0, .int .i64 0, .int .i64 0, .int .i64 0] 50)) #[.int .i64 0, .int .i64 0, .int .i64 0, .int .i64 0, .int .i64 0, .int .i64 0, .int .i64 0, .int .i64 0, .int .i64 0, .int .i64 0, .int .i64 0, .int .i64 0, .int .i64 0] 50
  rw [show (w.alloc (.cells #[.int .i64 0, .int .i64 0, .int .i64 0, .int .i64 0, .int .i64 0, .int .i64 0, .int .i64 0, .int .i64 0, .int .i64 0, .int .i64 0, .int .i64 0, .int .i64 0, .int .i64 0] 50)).heap.size = w.heap.size + 1 by simp] at N0
  have H0 : Hid (Below w.heap.size w _) := Lib.hid bel0
  have HK0 : Hid (Blk _ w.heap.size 50 (row13 [])) := Lib.hid K0
  have HN0 : Hid (Blk _ (w.heap.size + 1) 50 (row13 [])) := Lib.hid N0
  clear bel0 K0 N0
  go_loopw [6, 7, 8, 9, 10, 11] (fun s6 _ _ _ _ s11 wr => ∃ (p : Nat) (xs : List Int), xs.length ≤ 13 ∧ p ≤ n ∧ s11 = .int .i64 xs.length ∧ s6 = .int .i64 p ∧ Hid (N13 l xs p) ∧
      Hid (Blk wr w.heap.size 50 (row13 [])) ∧ Hid (Blk wr (w.heap.size + 1) 50 (row13 xs)) ∧ Hid (Below w.heap.size w wr))
    (fun _ _ _ _ _ s11 _ => 13 - (intOf s11).toNat)
  case atStart => exact ⟨0, [], by simp, by omega, rfl, rfl, Lib.hid (N13.start l), HK0, HN0, H0⟩
  case round =>
    clear H0 HK0 HN0
    obtain ⟨p, xs, hxl, hpn, rfl, rfl, HI, KE, KN, BL⟩ := hrel
    have RW := Lib.hid (R0.out.below BL.out)
    by_cases hlt : xs.length < 13
    · go_wp2_with (with_reducible show wpList _ _ _ ((⟨some 17, Op.slice 29 _ _ _ _, _, _, _, _⟩ : Oper) :: _) _ _
                   go_must (refine wpList_cut rfl 29 (.tmp 15) _ _ rfl 5 _ 1 1 Tryd.underlying29 byte_info _ A c n (bs l) rfl RW.out p n (.inr rfl) (.inl ⟨rfl, rfl⟩) (by omega) (by omega) ?_))
      intro A1 c1 hr1
      rw [bs_tail HLn.out] at hr1
      go_wp2_with fail
      refine (Get_c wr _ A1 c1 (n - p) (l.drop p) hr1 (HB.out.drop p)).mono ?_
      clear hr1
      obtain ⟨⟨x, k, er⟩, hg⟩ : ∃ r, PNum.getB 0 0 (l.drop p) = r := ⟨_, rfl⟩
      rw [hg]
      simp only [tup3]
      rintro e w1 ⟨rfl, rfl⟩
      by_cases h0 : er = 0
      · subst h0
        obtain ⟨_, g2, g3⟩ := PNum.getB_whole (HB.out.drop p) hg
        rw [List.length_drop, HLn.out] at g3
        obtain ⟨k, rfl⟩ := Int.eq_ofNat_of_zero_le (show 0 ≤ k by omega)
        have HI2 := Lib.hid (HI.out.next hlt hg)
        have HSet := Lib.hid (row13_set xs x hlt)
        clear hg
        have q0 := KN.out.cell (row13_at xs hlt)
        have q1 := KN.out.free xs.length
        have KN2 := Lib.hid (KN.out.set xs.length (.int .i64 x))
        have KE2 := Lib.hid (KE.out.far (grown_set wr (w.heap.size + 1) xs.length (.int .i64 x)) (by omega))
        have B2 := Lib.hid (BL.out.setCell (p := ⟨w.heap.size + 1, xs.length, none⟩) (Nat.le_succ _) (.int .i64 x))
        clear KN KE BL RW HI
        go_wp2_with fail
        go_roundw
        case rel => exact ⟨p + k, xs ++ [x], by simp; omega, by omega, by simp, by go_num, HI2, KE2, Lib.hid (by rw [← HSet.out]; exact KN2.out), B2⟩
        case measure => simp [intOf]; omega
      · have HF := Lib.hid (HI.out.none hlt (by rw [hg]; exact h0))
        have e0 : (er == 0) = false := by simpa using h0
        clear hg h0
        go_wp2_with ((with_reducible show wpList _ _ _ ((⟨none, Op.store 50 (.tmp 2) _, _, _, _, _⟩ : Oper) :: _) _ _); go_must (refine wpList_store_row rfl 50 (.tmp 2) (.tmp 24) rfl w.heap.size _ rfl rfl _ _ KE.out (by kernel_rfl) (by rfl) (by kernel_rfl) ?_))
        have K2 := KE.out.row #[.int .i64 0, .int .i64 0, .int .i64 0, .int .i64 0, .int .i64 0, .int .i64 0, .int .i64 0, .int .i64 0, .int .i64 0, .int .i64 0, .int .i64 0, .int .i64 0, .int .i64 0]
        have B2 := grown_below (grown_row wr w.heap.size #[.int .i64 0, .int .i64 0, .int .i64 0, .int .i64 0, .int .i64 0, .int .i64 0, .int .i64 0, .int .i64 0, .int .i64 0, .int .i64 0, .int .i64 0, .int .i64 0, .int .i64 0]) (Nat.le_refl _) BL.out.size
        refine bodyPost_ret (v := gtup none) (results_row_tmp2 rfl _ _ w.heap.size _ _ _ _ rfl rfl rfl K2 Tryd.underlying50 rfl (by kernel_rfl)) rfl ⟨by rw [HF.out], BL.out.trans B2⟩
    · have hx : xs.length = 13 := by omega
      have HD := Lib.hid (HI.out.done hx)
      obtain ⟨x0, x1, x2, x3, x4, x5, x6, x7, x8, x9, x10, x11, x12, rfl⟩ := list13 hx
      have KN1 : Hid (Blk wr (w.heap.size + 1) 50 [.int .i64 x0, .int .i64 x1, .int .i64 x2, .int .i64 x3, .int .i64 x4, .int .i64 x5, .int .i64 x6, .int .i64 x7, .int .i64 x8, .int .i64 x9, .int .i64 x10, .int .i64 x11, .int .i64 x12]) := Lib.hid KN.out
      have hl : ([x0, x1, x2, x3, x4, x5, x6, x7, x8, x9, x10, x11, x12].length : Int) = 13 := rfl
      rw [hl]
      clear hx hxl hlt HI KN hl
      go_wp2_with (first
        | ((with_reducible show wpList _ _ _ ((⟨some 32, Op.load _ _, _, _, _, _⟩ : Oper) :: _) _ _); go_must (refine wpList_load_row rfl 50 (.tmp 5) rfl (w.heap.size + 1) rfl 50 #[.int .i64 x0, .int .i64 x1, .int .i64 x2, .int .i64 x3, .int .i64 x4, .int .i64 x5, .int .i64 x6, .int .i64 x7, .int .i64 x8, .int .i64 x9, .int .i64 x10, .int .i64 x11, .int .i64 x12] (0, 0) _ KN1.out Tryd.underlying50 rfl (by kernel_rfl) ?_))
        | ((with_reducible show wpList _ _ _ ((⟨none, Op.store 50 (.tmp 2) _, _, _, _, _⟩ : Oper) :: _) _ _); go_must (refine wpList_store_row rfl 50 (.tmp 2) (.tmp 32) rfl w.heap.size _ rfl rfl _ _ KE.out (by kernel_rfl) (by rfl) (by kernel_rfl) ?_)))
      have K2 := KE.out.row #[.int .i64 x0, .int .i64 x1, .int .i64 x2, .int .i64 x3, .int .i64 x4, .int .i64 x5, .int .i64 x6, .int .i64 x7, .int .i64 x8, .int .i64 x9, .int .i64 x10, .int .i64 x11, .int .i64 x12]
      have B2 := grown_below (grown_row wr w.heap.size #[.int .i64 x0, .int .i64 x1, .int .i64 x2, .int .i64 x3, .int .i64 x4, .int .i64 x5, .int .i64 x6, .int .i64 x7, .int .i64 x8, .int .i64 x9, .int .i64 x10, .int .i64 x11, .int .i64 x12]) (Nat.le_refl _) BL.out.size
      refine bodyPost_ret (v := gtup (some ([x0, x1, x2, x3, x4, x5, x6, x7, x8, x9, x10, x11, x12], p))) (results_row_tmp2 rfl _ _ w.heap.size _ _ _ _ rfl rfl rfl K2 Tryd.underlying50 rfl (by kernel_rfl)) rfl ⟨by rw [HD.out], BL.out.trans B2⟩
end Go.Proofs.YtgcpofiecbpfbaaDoor

/- Contract of Decode. -/
namespace Go.Proofs.YtgcpofiecbpfbaaDoor
open Go.RowKit

def slLen : Value → Nat
  | .slice _ n _ => n
  | _ => 0
def dErr : Option (List Ent) → Int
  | some _ => 0
  | none => 1

/-- The loop's invariant: es were read of the first p bytes. -/
def DI (l : List Int) (es : List Ent) (p : Nat) : Prop := ∃ f, (l.drop p).length ≤ f ∧ PEnt.dec l = (PEnt.rdL f (l.drop p)).map (es ++ ·)
theorem DI.start (l : List Int) : DI l [] 0 := ⟨l.length, by simp, by simp [PEnt.dec]⟩
theorem DI.bad {l : List Int} {es : List Ent} {p : Nat} (h : DI l es p) (hp : 0 < (l.drop p).length) (he : PEnt.rdE (l.drop p) = none) : PEnt.dec l = none := by
  obtain ⟨f, hf, hd⟩ := h
  rw [hd]
  generalize l.drop p = m at *
  match f, m, hp with
  | 0, [], hp => simp at hp
  | 0, c :: r, _ => simp at hf
  | f + 1, [], hp => simp at hp
  | f + 1, c :: r, _ => simp [PEnt.rdL, he]
theorem DI.next {l : List Int} {es : List Ent} {p k : Nat} {e : Ent} (h : DI l es p) (hk : 0 < k) (hl : k ≤ (l.drop p).length) (he : PEnt.rdE (l.drop p) = some (e, k)) : DI l (es ++ [e]) (p + k) := by
  obtain ⟨f, hf, hd⟩ := h
  have e1 : l.drop (p + k) = (l.drop p).drop k := by rw [List.drop_drop]
  match f, hf, hd with
  | 0, hf, _ => omega
  | f + 1, hf, hd =>
    refine ⟨f, by rw [e1, List.length_drop]; omega, ?_⟩
    rw [hd, e1]
    generalize l.drop p = m at *
    match m, hl with
    | [], hl => simp at hl; omega
    | c :: r, _ =>
      simp only [PEnt.rdL, he]
      cases PEnt.rdL f ((c :: r).drop k) <;> simp
theorem DI.done {l : List Int} {es : List Ent} {p : Nat} (h : DI l es p) (hp : l.drop p = []) : PEnt.dec l = some es := by
  obtain ⟨f, _, hd⟩ := h
  rw [hd, hp]
  cases f <;> simp [PEnt.rdL]

set_option maxHeartbeats 4000000 in
set_option maxRecDepth 100000 in
theorem Decode_c (w : World) (B : Nat) (A : Option Addr) (c n : Nat) (l : List Int) (h : Rd w B A c 1 n (bs l)) (hb : isB l) (hn : n ≤ 1000000) :
    Calls Tryd.prog 38 #[.slice A n c] w fun x w' => ∃ A' c', x = .returned (.tuple #[.slice A' ((PEnt.dec l).getD []).length c', .int .i64 (dErr (PEnt.dec l))]) ∧
      w'.ownsRow w.heap.size 38 7 (.slice A' ((PEnt.dec l).getD []).length c') ((PEnt.dec l).getD []).length (els ((PEnt.dec l).getD [])) ∧ Below w.heap.size w w' := by
  have R0 := Lib.hid h.tight
  have HLn := Lib.hid h.blen
  have HB := Lib.hid hb
  clear h hb
  go_enter Tryd.func38, Tryd.ntmps38
  go_wp2_with fail
  go_loopw [0, 4, 5, 6, 7] (fun s0 s4 _ _ _ wr => ∃ (p m cb c' : Nat) (Ab A' : Option Addr) (es : List Ent), p ≤ n ∧ m ≤ p ∧ s0 = .slice Ab (n - p) cb ∧ s4 = .slice A' m c' ∧ Hid (Rd wr w.heap.size Ab cb 1 (n - p) (bs (l.drop p))) ∧
      Hid (wr.ownsRow w.heap.size 38 7 (.slice A' m c') m (els es)) ∧ Hid (DI l es p) ∧ Hid (Below w.heap.size w wr))
    (fun s0 _ _ _ _ _ => slLen s0)
  case atStart => exact ⟨0, 0, c, 0, A, none, [], by omega, by omega, rfl, rfl, R0, Lib.hid (World.ownsRow_nil _ _ _ _), Lib.hid (DI.start l), Lib.hid (Below.refl _ _)⟩
  case round =>
    clear R0
    obtain ⟨p, m, cb, c1, Ab, A1, es, hp, hm, rfl, rfl, R, O, HI, BL⟩ := hrel
    have HLd := Lib.hid (show (l.drop p).length = n - p by rw [List.length_drop, HLn.out])
    by_cases hlt : 0 < n - p
    · go_wp2_with fail
      refine (decodeOne_c wr _ Ab cb (n - p) (l.drop p) R.out (HB.out.drop p) (by omega)).mono ?_
      cases hr : PEnt.rdE (l.drop p) with
      | none =>
        have HD := Lib.hid (HI.out.bad (by rw [HLd.out]; exact hlt) hr)
        clear hr
        simp only [dtup, ev, zeroE]
        rintro x w1 ⟨rfl, b1⟩
        have B1 := Lib.hid (BL.out.trans (b1.mono BL.out.size))
        have B2 := Lib.hid (B1.out.alloc B1.out.size (.cells #[.int .i64 0, .int .i64 0, .int .i64 0, .int .i64 0, .int .i64 0, .int .i64 0, .string ⟨#[]⟩] 38))
        clear b1 BL O R
        go_wp2_with fail
        go_ret2
        refine ⟨none, 0, ?_, ?_, B2.out⟩
        · rw [HD.out]; rfl
        · rw [HD.out]; exact World.ownsRow_nil _ _ _ _
      | some q =>
        obtain ⟨e, k⟩ := q
        obtain ⟨he1, he2, he3, -⟩ := PEnt.rdE_inv (HB.out.drop p) hr
        rw [HLd.out] at he3
        have HI2 := Lib.hid (HI.out.next he2 (by rw [HLd.out]; exact he3) hr)
        clear hr he1
        simp only [dtup, ev]
        rintro x w1 ⟨rfl, b1⟩
        have B1 := Lib.hid (BL.out.trans (b1.mono BL.out.size))
        have O1 := Lib.hid (own_below O.out b1)
        have R1 := Lib.hid (R.out.past b1)
        clear b1 BL O R HI
        have O2 := own_below O1.out ((Below.refl _ _).alloc (Nat.le_refl _) (.cells #[.int .i64 e.fr, .int .i64 e.boot, .int .i64 e.seq, .int .i64 e.ord, .int .i64 e.lev, .int .i64 e.stamp, .string e.data] 38))
        have B2 := Lib.hid (B1.out.alloc B1.out.size (.cells #[.int .i64 e.fr, .int .i64 e.boot, .int .i64 e.seq, .int .i64 e.ord, .int .i64 e.lev, .int .i64 e.stamp, .string e.data] 38))
        have R2 := Lib.hid (R1.out.alloc (.cells #[.int .i64 e.fr, .int .i64 e.boot, .int .i64 e.seq, .int .i64 e.ord, .int .i64 e.lev, .int .i64 e.stamp, .string e.data] 38))
        have HO2 := Lib.hid O2
        clear O2 B1 R1 O1
        go_wp2_with (at_builtin; go_must (refine wpList_pushes rfl (.tmp 19) (.tmp 21) _ rfl w.heap.size 38 (ev zeroE) 7 64 1 Tryd.underlying22 ent_info rfl (by omega) rfl (by unfold maxLen; omega) A1 c1 m (els es) rfl HO2.out (by show Value.slice (some ⟨w1.heap.size + 1, 0, none⟩) 1 1 = _; simp) ?h1 ?h2 ?h3 ?h4 ?_))
        case h1 => exact ⟨rfl, rfl, rfl, rfl, rfl, rfl, rfl⟩
        case h2 => unfold maxLen; omega
        case h3 => omega
        case h4 => exact B2.out.size
        intro A2 c2 w2 hown2 hg2 hb2
        have B3 := Lib.hid (B2.out.trans hb2)
        have R3 := Lib.hid (R2.out.below hb2)
        have O3 := Lib.hid (show w2.ownsRow w.heap.size 38 7 (.slice A2 (m + 1) c2) (m + 1) (els (es ++ [e])) by rw [els_append]; exact hown2)
        clear hown2 hg2 hb2 B2 R2 HO2
        go_wp2_with (with_reducible show wpList _ _ _ ((⟨some 25, Op.slice 29 _ _ _ _, _, _, _, _⟩ : Oper) :: _) _ _
                     go_must (refine wpList_cut rfl 29 (.tmp 23) _ _ rfl 5 _ 1 1 Tryd.underlying29 byte_info _ Ab cb (n - p) (bs (l.drop p)) rfl R3.out k (n - p) (.inr rfl) (.inl ⟨rfl, rfl⟩) he3 (Nat.le_refl _) ?_))
        intro A4 c4 hr4
        rw [bs_tail HLd.out, List.drop_drop] at hr4
        have R4 := Lib.hid hr4
        clear hr4 R3
        go_wp2_with fail
        go_roundw
        case rel => exact ⟨p + k, m + 1, c4, c2, A4, A2, es ++ [e], by omega, by omega, by rw [Nat.sub_sub], rfl, Lib.hid (by rw [← Nat.sub_sub]; exact R4.out), O3, HI2, B3⟩
        case measure => simp [slLen]; omega
    · have hp0 : l.drop p = [] := List.eq_nil_of_length_eq_zero (by rw [HLd.out]; omega)
      have HD := Lib.hid (HI.out.done hp0)
      have hl := O.out.1
      rw [els_length] at hl
      have HM := Lib.hid (show es.length = m by omega)
      clear hl hp0
      go_wp2_with fail
      go_ret2
      refine ⟨A1, c1, ?_, ?_, BL.out⟩
      · rw [HD.out]; show _ = Ending.returned (.tuple #[.slice A1 es.length c1, .int .i64 0]); rw [HM.out]; rfl
      · rw [HD.out]; show wr.ownsRow _ _ _ (.slice A1 es.length c1) es.length (els es); rw [HM.out]; exact O.out
end Go.Proofs.YtgcpofiecbpfbaaDoor

/- Contract of Decode of messages. -/
namespace Go.Proofs.YtgcpofiecbpfbaaDoor
open Go.RowKit

def mErr : Option Msg → Int
  | some _ => 0
  | none => 1
/-- A message with entries of its own, or a zero one; was there one. -/
def DecPost (w : World) (r : Option Msg) (x : Ending) (w' : World) : Prop :=
  ∃ (A' : Option Addr) (c' : Nat), x = .returned (.tuple #[mv (r.getD zeroM) A' c', .int .i64 (mErr r)]) ∧ Rd w' w'.heap.size A' c' 7 (r.getD zeroM).es.length (els (r.getD zeroM).es) ∧ Below w.heap.size w w'

set_option maxHeartbeats 8000000 in
set_option maxRecDepth 100000 in
theorem wDecode_c (w : World) (B : Nat) (A : Option Addr) (c n : Nat) (l : List Int) (h : Rd w B A c 1 n (bs l)) (hb : isB l) (ht : Tab w) (hn : n ≤ 1000000) :
    Calls Tryd.prog 17 #[.slice A n c] w (DecPost w (PMsg.dec l)) := by
  have R0 := Lib.hid h
  have HB := Lib.hid hb
  have HT := Lib.hid ht
  have HLn := Lib.hid h.blen
  clear h hb ht
  go_enter Tryd.func17, Tryd.ntmps17
  go_wp2_with fail
  have b1 := (Below.refl w.heap.size w).alloc (Nat.le_refl _) (.cells #[.int .i64 0, .int .i64 0, .int .i64 0, .int .i64 0, .int .i64 0, .int .i64 0, .int .i64 0, .int .i64 0, .slice none 0 0, .int .i64 0, .int .i64 0, .int .i64 0, .bool false] 24)
  have K0 := Blk.new w #[.int .i64 0, .int .i64 0, .int .i64 0, .int .i64 0, .int .i64 0, .int .i64 0, .int .i64 0, .int .i64 0, .slice none 0 0, .int .i64 0, .int .i64 0, .int .i64 0, .bool false] 24
  generalize w.alloc (.cells #[.int .i64 0, .int .i64 0, .int .i64 0, .int .i64 0, .int .i64 0, .int .i64 0, .int .i64 0, .int .i64 0, .slice none 0 0, .int .i64 0, .int .i64 0, .int .i64 0, .bool false] 24) = w1 at *
  have KZ1 := Lib.hid (show Blk w1 w.heap.size 24 (mcs zeroM none 0) from K0)
  refine (Open_c w1 _ A c n l (R0.out.past b1) HB.out (HT.out.past b1) (by omega)).mono ?_
  have BL1 := Lib.hid b1
  clear b1 K0
  cases ho : openP l with
  | mk s ok =>
  rintro x w2 ⟨A1, c1, rfl, hr1, b2⟩
  have BL2 := Lib.hid (BL1.out.trans (b2.mono BL1.out.size))
  have KZ2 := Lib.hid (KZ1.out.past b2)
  have RS := Lib.hid hr1
  clear b2 hr1 KZ1 BL1
  cases ok
  · have HD := Lib.hid (show PMsg.dec l = none by unfold PMsg.dec; rw [ho]; rfl)
    clear ho
    go_wp2_with ((with_reducible show wpList _ _ _ ((⟨none, Op.store 24 (.tmp 2) _, _, _, _, _⟩ : Oper) :: _) _ _); go_must (refine wpList_store_row rfl 24 (.tmp 2) (.tmp 18) rfl w.heap.size _ rfl rfl _ _ KZ2.out (by kernel_rfl) (by rfl) (by kernel_rfl) ?_))
    have K2 := KZ2.out.row #[.int .i64 0, .int .i64 0, .int .i64 0, .int .i64 0, .int .i64 0, .int .i64 0, .int .i64 0, .int .i64 0, .slice none 0 0, .int .i64 0, .int .i64 0, .int .i64 0, .bool false]
    have B2 := grown_below (grown_row w2 w.heap.size #[.int .i64 0, .int .i64 0, .int .i64 0, .int .i64 0, .int .i64 0, .int .i64 0, .int .i64 0, .int .i64 0, .slice none 0 0, .int .i64 0, .int .i64 0, .int .i64 0, .bool false]) (Nat.le_refl _) BL2.out.size
    refine bodyPost_ret (v := .tuple #[mv zeroM none 0, .int .i64 1]) (results_rowB rfl _ _ w.heap.size _ _ _ _ rfl rfl K2 Tryd.underlying24 rfl (by kernel_rfl)) rfl ?_
    rw [HD.out]
    exact ⟨none, 0, rfl, Rd.nil _ _ _, BL2.out.trans B2⟩
  · have hy := PMsg.openP_yes HB.out (by rw [ho])
    rw [ho] at hy
    have HSB := Lib.hid hy.2
    have hsl : s.length ≤ 1000000 := by
      have := congrArg List.length hy.1
      rw [sealed_length, HLn.out] at this
      dsimp only at this
      omega
    have HSL := Lib.hid hsl
    have HDD := Lib.hid (show PMsg.dec l = PMsg.rd s by unfold PMsg.dec; rw [ho]; rfl)
    clear ho hy
    simp only
    go_wp2_with fail
    refine (getNumbers_c w2 _ A1 c1 s.length s RS.out HSB.out hsl).mono ?_
    cases hr : PEnt.rdN 13 s with
    | none =>
      have HD := Lib.hid (HDD.out.trans (show PMsg.rd s = none by unfold PMsg.rd; rw [hr]))
      clear hr
      have hz : gtup none = .tuple #[.agg #[.int .i64 0, .int .i64 0, .int .i64 0, .int .i64 0, .int .i64 0, .int .i64 0, .int .i64 0, .int .i64 0, .int .i64 0, .int .i64 0, .int .i64 0, .int .i64 0, .int .i64 0], .int .i64 0, .bool false] := rfl
      rw [hz]
      clear hz
      rintro x w3 ⟨rfl, b3⟩
      have b4 := (Below.refl w3.heap.size w3).alloc (Nat.le_refl _) (.cells #[.int .i64 0, .int .i64 0, .int .i64 0, .int .i64 0, .int .i64 0, .int .i64 0, .int .i64 0, .int .i64 0, .int .i64 0, .int .i64 0, .int .i64 0, .int .i64 0, .int .i64 0] 50)
      have BL3 := Lib.hid ((BL2.out.trans (b3.mono BL2.out.size)).trans (b4.mono (Nat.le_trans BL2.out.size b3.size)))
      have KZ3 := Lib.hid ((KZ2.out.past b3).past b4)
      clear b3 b4
      go_wp2_with ((with_reducible show wpList _ _ _ ((⟨none, Op.store 24 (.tmp 2) _, _, _, _, _⟩ : Oper) :: _) _ _); go_must (refine wpList_store_row rfl 24 (.tmp 2) (.tmp 27) rfl w.heap.size _ rfl rfl _ _ KZ3.out (by kernel_rfl) (by rfl) (by kernel_rfl) ?_))
      have K2 := KZ3.out.row #[.int .i64 0, .int .i64 0, .int .i64 0, .int .i64 0, .int .i64 0, .int .i64 0, .int .i64 0, .int .i64 0, .slice none 0 0, .int .i64 0, .int .i64 0, .int .i64 0, .bool false]
      have B2 := grown_below (grown_row (w3.alloc (.cells #[.int .i64 0, .int .i64 0, .int .i64 0, .int .i64 0, .int .i64 0, .int .i64 0, .int .i64 0, .int .i64 0, .int .i64 0, .int .i64 0, .int .i64 0, .int .i64 0, .int .i64 0] 50)) w.heap.size #[.int .i64 0, .int .i64 0, .int .i64 0, .int .i64 0, .int .i64 0, .int .i64 0, .int .i64 0, .int .i64 0, .slice none 0 0, .int .i64 0, .int .i64 0, .int .i64 0, .bool false]) (Nat.le_refl _) BL3.out.size
      refine bodyPost_ret (v := .tuple #[mv zeroM none 0, .int .i64 1]) (results_rowB rfl _ _ w.heap.size _ _ _ _ rfl rfl K2 Tryd.underlying24 rfl (by kernel_rfl)) rfl ?_
      rw [HD.out]
      exact ⟨none, 0, rfl, Rd.nil _ _ _, BL3.out.trans B2⟩
    | some q =>
      obtain ⟨xs, p⟩ := q
      obtain ⟨i1, i2, -, i4⟩ := PEnt.rdN_inv 13 s xs p HSB.out hr
      have HRD := Lib.hid (show PMsg.rd s = match PEnt.dec (s.drop p) with
        | some es => if PMsg.may (PMsg.ofN xs es) = true ∧ PMsg.ns (PMsg.ofN xs es) = xs then some (PMsg.ofN xs es) else none
        | none => none by
          simp only [PMsg.rd, hr]
          cases PEnt.dec (s.drop p) <;> rfl)
      clear hr
      obtain ⟨x0, x1, x2, x3, x4, x5, x6, x7, x8, x9, x10, x11, x12, rfl⟩ := list13 i1
      have HX6 := Lib.hid (i4 x6 (by simp))
      clear i1 i4
      have hz : gtup (some ([x0, x1, x2, x3, x4, x5, x6, x7, x8, x9, x10, x11, x12], p)) = .tuple #[.agg #[.int .i64 x0, .int .i64 x1, .int .i64 x2, .int .i64 x3, .int .i64 x4, .int .i64 x5, .int .i64 x6, .int .i64 x7, .int .i64 x8, .int .i64 x9, .int .i64 x10, .int .i64 x11, .int .i64 x12], .int .i64 p, .bool true] := rfl
      rw [hz]
      clear hz
      rintro x w3 ⟨rfl, b3⟩
      have b4 := (Below.refl w3.heap.size w3).alloc (Nat.le_refl _) (.cells #[.int .i64 x0, .int .i64 x1, .int .i64 x2, .int .i64 x3, .int .i64 x4, .int .i64 x5, .int .i64 x6, .int .i64 x7, .int .i64 x8, .int .i64 x9, .int .i64 x10, .int .i64 x11, .int .i64 x12] 50)
      have BL4 := Lib.hid ((BL2.out.trans (b3.mono BL2.out.size)).trans (b4.mono (Nat.le_trans BL2.out.size b3.size)))
      have KZ4 := Lib.hid ((KZ2.out.past b3).past b4)
      have RS4 := Lib.hid ((RS.out.past b3).past b4)
      have KN4 := Lib.hid (Blk.new w3 #[.int .i64 x0, .int .i64 x1, .int .i64 x2, .int .i64 x3, .int .i64 x4, .int .i64 x5, .int .i64 x6, .int .i64 x7, .int .i64 x8, .int .i64 x9, .int .i64 x10, .int .i64 x11, .int .i64 x12] 50)
      clear b3 b4 KZ2 RS BL2
      go_wp2_with (with_reducible show wpList _ _ _ ((⟨some 31, Op.slice 29 _ _ _ _, _, _, _, _⟩ : Oper) :: _) _ _
                   go_must (refine wpList_cut rfl 29 (.tmp 29) _ _ rfl 5 _ 1 1 Tryd.underlying29 byte_info _ A1 c1 s.length (bs s) rfl RS4.out p s.length (.inr rfl) (.inl ⟨rfl, rfl⟩) i2 (by omega) ?_))
      intro A2 c2 hr2
      rw [bs_tail rfl] at hr2
      have HR2 := Lib.hid hr2
      clear hr2
      generalize w3.alloc (.cells #[.int .i64 x0, .int .i64 x1, .int .i64 x2, .int .i64 x3, .int .i64 x4, .int .i64 x5, .int .i64 x6, .int .i64 x7, .int .i64 x8, .int .i64 x9, .int .i64 x10, .int .i64 x11, .int .i64 x12] 50) = w4 at *
      generalize hg3 : w3.heap.size = g3 at *
      have HG3 := Lib.hid hg3
      clear hg3
      go_wp2_with fail
      refine (Decode_c w4 _ A2 c2 (s.length - p) (s.drop p) HR2.out (HSB.out.drop p) (by omega)).mono ?_
      cases hd : PEnt.dec (s.drop p) with
      | none =>
        have HD := Lib.hid (HDD.out.trans (HRD.out.trans (by rw [hd])))
        clear hd HRD
        simp only [Option.getD_none, List.length_nil, dErr]
        rintro x w5 ⟨A3, c3, rfl, -, b5⟩
        have BL5 := Lib.hid (BL4.out.trans (b5.mono BL4.out.size))
        have KZ5 := Lib.hid (KZ4.out.past b5)
        clear b5
        go_wp2_with ((with_reducible show wpList _ _ _ ((⟨none, Op.store 24 (.tmp 2) _, _, _, _, _⟩ : Oper) :: _) _ _); go_must (refine wpList_store_row rfl 24 (.tmp 2) (.tmp 37) rfl w.heap.size _ rfl rfl _ _ KZ5.out (by kernel_rfl) (by rfl) (by kernel_rfl) ?_))
        have K2 := KZ5.out.row #[.int .i64 0, .int .i64 0, .int .i64 0, .int .i64 0, .int .i64 0, .int .i64 0, .int .i64 0, .int .i64 0, .slice none 0 0, .int .i64 0, .int .i64 0, .int .i64 0, .bool false]
        have B2 := grown_below (grown_row w5 w.heap.size #[.int .i64 0, .int .i64 0, .int .i64 0, .int .i64 0, .int .i64 0, .int .i64 0, .int .i64 0, .int .i64 0, .slice none 0 0, .int .i64 0, .int .i64 0, .int .i64 0, .bool false]) (Nat.le_refl _) BL5.out.size
        refine bodyPost_ret (v := .tuple #[mv zeroM none 0, .int .i64 1]) (results_rowB rfl _ _ w.heap.size _ _ _ _ rfl rfl K2 Tryd.underlying24 rfl (by kernel_rfl)) rfl ?_
        rw [HD.out]
        exact ⟨none, 0, rfl, Rd.nil _ _ _, BL5.out.trans B2⟩
      | some es =>
        have HRR := Lib.hid (HDD.out.trans (HRD.out.trans (by rw [hd])) : PMsg.dec l = if PMsg.may (PMsg.ofN [x0, x1, x2, x3, x4, x5, x6, x7, x8, x9, x10, x11, x12] es) = true ∧ PMsg.ns (PMsg.ofN [x0, x1, x2, x3, x4, x5, x6, x7, x8, x9, x10, x11, x12] es) = [x0, x1, x2, x3, x4, x5, x6, x7, x8, x9, x10, x11, x12] then some (PMsg.ofN [x0, x1, x2, x3, x4, x5, x6, x7, x8, x9, x10, x11, x12] es) else none)
        clear hd HRD
        simp only [Option.getD_some, dErr]
        rintro x w5 ⟨A3, c3, rfl, hown, b5⟩
        have BL5 := Lib.hid (BL4.out.trans (b5.mono BL4.out.size))
        have KZ5 := Lib.hid (KZ4.out.past b5)
        have KN5 := Lib.hid (KN4.out.past b5)
        have RE5 := Lib.hid (Rd.of_own hown)
        have HOWN := Lib.hid (fun h0 : 0 < es.length => own_some hown h0)
        have HW4 := Lib.hid (Nat.lt_of_lt_of_le KZ4.out.lt (Nat.le_refl _))
        clear b5 hown KZ4 KN4 BL4
        go_wp2_with ((with_reducible show wpList _ _ _ ((⟨some 38, Op.load _ _, _, _, _, _⟩ : Oper) :: _) _ _); go_must (refine wpList_load_row rfl 50 (.tmp 6) rfl g3 rfl 50 #[.int .i64 x0, .int .i64 x1, .int .i64 x2, .int .i64 x3, .int .i64 x4, .int .i64 x5, .int .i64 x6, .int .i64 x7, .int .i64 x8, .int .i64 x9, .int .i64 x10, .int .i64 x11, .int .i64 x12] (0, 0) _ KN5.out Tryd.underlying50 rfl (by kernel_rfl) ?_))
        refine (show Calls Tryd.prog 39 #[.agg #[.int .i64 x0, .int .i64 x1, .int .i64 x2, .int .i64 x3, .int .i64 x4, .int .i64 x5, .int .i64 x6, .int .i64 x7, .int .i64 x8, .int .i64 x9, .int .i64 x10, .int .i64 x11, .int .i64 x12], .slice A3 es.length c3] w5 (fun x w' => x = .returned (.agg #[.int .i64 x0, .int .i64 x1, .int .i64 x2, .int .i64 x3, .int .i64 x4, .int .i64 x5, .int .i64 x6, .int .i64 x7, .slice A3 es.length c3, .int .i64 x8, .int .i64 x9, .int .i64 x10, .bool (x11 == 1)]) ∧ Below w5.heap.size w5 w') from wOf_c w5 x0 x1 x2 x3 x4 x5 x6 x7 x8 x9 x10 x11 x12 es A3 c3).mono ?_
        rintro x w6 ⟨rfl, b6⟩
        have b7 := (Below.refl w6.heap.size w6).alloc (Nat.le_refl _) (.cells #[.int .i64 x0, .int .i64 x1, .int .i64 x2, .int .i64 x3, .int .i64 x4, .int .i64 x5, .int .i64 x6, .int .i64 x7, .slice A3 es.length c3, .int .i64 x8, .int .i64 x9, .int .i64 x10, .bool (x11 == 1)] 24)
        have BL7 := Lib.hid ((BL5.out.trans (b6.mono BL5.out.size)).trans (b7.mono (Nat.le_trans BL5.out.size b6.size)))
        have KZ7 := Lib.hid ((KZ5.out.past b6).past b7)
        have KN7 := Lib.hid ((KN5.out.past b6).past b7)
        have RE7 := Lib.hid (((RE5.out.past b6).past b7).tight)
        have KM7 := Lib.hid (show Blk (w6.alloc (.cells #[.int .i64 x0, .int .i64 x1, .int .i64 x2, .int .i64 x3, .int .i64 x4, .int .i64 x5, .int .i64 x6, .int .i64 x7, .slice A3 es.length c3, .int .i64 x8, .int .i64 x9, .int .i64 x10, .bool (x11 == 1)] 24)) w6.heap.size 24 (mcs (PMsg.ofN [x0, x1, x2, x3, x4, x5, x6, x7, x8, x9, x10, x11, x12] es) A3 c3) from Blk.new w6 #[.int .i64 x0, .int .i64 x1, .int .i64 x2, .int .i64 x3, .int .i64 x4, .int .i64 x5, .int .i64 x6, .int .i64 x7, .slice A3 es.length c3, .int .i64 x8, .int .i64 x9, .int .i64 x10, .bool (x11 == 1)] 24)
        clear b6 b7 KZ5 KN5 RE5 BL5
        go_wp2_with fail
        generalize w6.alloc (.cells #[.int .i64 x0, .int .i64 x1, .int .i64 x2, .int .i64 x3, .int .i64 x4, .int .i64 x5, .int .i64 x6, .int .i64 x7, .slice A3 es.length c3, .int .i64 x8, .int .i64 x9, .int .i64 x10, .bool (x11 == 1)] 24) = w7 at *
        generalize hg6 : w6.heap.size = g6 at *
        have HG6 := Lib.hid hg6
        clear hg6
        have HLM := Lib.hid (PMsg.ns_length (PMsg.ofN [x0, x1, x2, x3, x4, x5, x6, x7, x8, x9, x10, x11, x12] es))
        cases hm : PMsg.may (PMsg.ofN [x0, x1, x2, x3, x4, x5, x6, x7, x8, x9, x10, x11, x12] es)
        · have HD := Lib.hid (HRR.out.trans (if_neg (fun h => by rw [hm] at h; cases h.1)))
          have HM := Lib.hid hm
          clear hm
-- REGION curfew/wire.Decode 11 wdec11a 10
          refine Hb.begin ?_
          refine Hb.take (v := mv (PMsg.ofN [x0, x1, x2, x3, x4, x5, x6, x7, x8, x9, x10, x11, x12] es) A3 c3) 0 41 rfl ?_ (fun w' hw' => by exact run_loadM (KM7.out.drew.past hw') rfl)
          refine Hb.call (f := 11) (args := #[mv (PMsg.ofN [x0, x1, x2, x3, x4, x5, x6, x7, x8, x9, x10, x11, x12] es) A3 c3]) 1 42 rfl ?_ (run_callf Tryd.func11 (by kernel_rfl) (by kernel_rfl) (by simp only [List.map_toArray, List.map_cons, List.map_nil]; rfl))
          refine (wMay_c w7.drew (PMsg.ofN [x0, x1, x2, x3, x4, x5, x6, x7, x8, x9, x10, x11, x12] es) A3 c3 RE7.out HX6.out).mono ?_
          rw [HM.out]
          rintro x w8 ⟨rfl, b8⟩
          have B8 := Lib.hid (show Below w7.heap.size w7 w8 from (Below.refl _ _).drew.trans b8)
          refine Hb.back b8 b8.size ?_
          refine Hb.take (v := .bool true) 2 43 rfl ?_ (fun w' hw' => by go_simp; first | done | rfl | omega | exact wrap_in (by omega) (by omega) | exact Int.tmod_eq_emod_of_nonneg (by omega) | exact Int.tdiv_eq_ediv_of_nonneg (by omega) | (simp; omega))
          refine Hb.take (v := .bool true) 3 44 rfl ?_ (fun _ _ => rfl)
          refine Hb.pass 4 45 rfl ?_
          refine Hb.pass 5 46 rfl ?_
          refine Hb.pass 6 47 rfl ?_
          refine Hb.pass 7 48 rfl ?_
          refine Hb.take (v := Value.bool true) 8 49 rfl ?_ (fun _ _ => rfl)
          refine Hb.done ?_
-- END
          have BL9 := Lib.hid (BL7.out.trans (B8.out.mono BL7.out.size))
          have KZ9 := Lib.hid (KZ7.out.past B8.out)
          go_wp2_with ((with_reducible show wpList _ _ _ ((⟨none, Op.store 24 (.tmp 2) _, _, _, _, _⟩ : Oper) :: _) _ _); go_must (refine wpList_store_row rfl 24 (.tmp 2) (.tmp 50) rfl w.heap.size _ rfl rfl _ _ KZ9.out (by kernel_rfl) (by rfl) (by kernel_rfl) ?_))
          have K2 := KZ9.out.row #[.int .i64 0, .int .i64 0, .int .i64 0, .int .i64 0, .int .i64 0, .int .i64 0, .int .i64 0, .int .i64 0, .slice none 0 0, .int .i64 0, .int .i64 0, .int .i64 0, .bool false]
          have B2 := grown_below (grown_row w8 w.heap.size #[.int .i64 0, .int .i64 0, .int .i64 0, .int .i64 0, .int .i64 0, .int .i64 0, .int .i64 0, .int .i64 0, .slice none 0 0, .int .i64 0, .int .i64 0, .int .i64 0, .bool false]) (Nat.le_refl _) BL9.out.size
          refine bodyPost_ret (v := .tuple #[mv zeroM none 0, .int .i64 1]) (results_rowB rfl _ _ w.heap.size _ _ _ _ rfl rfl K2 Tryd.underlying24 rfl (by kernel_rfl)) rfl ?_
          rw [HD.out]
          exact ⟨none, 0, rfl, Rd.nil _ _ _, BL9.out.trans B2⟩
        · have HM := Lib.hid hm
          cases hq : decide (PMsg.ns (PMsg.ofN [x0, x1, x2, x3, x4, x5, x6, x7, x8, x9, x10, x11, x12] es) = [x0, x1, x2, x3, x4, x5, x6, x7, x8, x9, x10, x11, x12])
          · have HD := Lib.hid (HRR.out.trans (if_neg (fun h => of_decide_eq_false hq h.2)))
            have HQ := Lib.hid (show (!decide (PMsg.ns (PMsg.ofN [x0, x1, x2, x3, x4, x5, x6, x7, x8, x9, x10, x11, x12] es) = [x0, x1, x2, x3, x4, x5, x6, x7, x8, x9, x10, x11, x12])) = true by rw [hq]; rfl)
            clear hm hq
-- REGION curfew/wire.Decode 11 wdec11b 12
            refine Hb.begin ?_
            refine Hb.take (v := mv (PMsg.ofN [x0, x1, x2, x3, x4, x5, x6, x7, x8, x9, x10, x11, x12] es) A3 c3) 0 41 rfl ?_ (fun w' hw' => by exact run_loadM (KM7.out.drew.past hw') rfl)
            refine Hb.call (f := 11) (args := #[mv (PMsg.ofN [x0, x1, x2, x3, x4, x5, x6, x7, x8, x9, x10, x11, x12] es) A3 c3]) 1 42 rfl ?_ (run_callf Tryd.func11 (by kernel_rfl) (by kernel_rfl) (by simp only [List.map_toArray, List.map_cons, List.map_nil]; rfl))
            refine (wMay_c w7.drew (PMsg.ofN [x0, x1, x2, x3, x4, x5, x6, x7, x8, x9, x10, x11, x12] es) A3 c3 RE7.out HX6.out).mono ?_
            rw [HM.out]
            rintro x w8 ⟨rfl, b8⟩
            have B8 := Lib.hid (show Below w7.heap.size w7 w8 from (Below.refl _ _).drew.trans b8)
            refine Hb.back b8 b8.size ?_
            refine Hb.take (v := .bool false) 2 43 rfl ?_ (fun w' hw' => by go_simp; first | done | rfl | omega | exact wrap_in (by omega) (by omega) | exact Int.tmod_eq_emod_of_nonneg (by omega) | exact Int.tdiv_eq_ediv_of_nonneg (by omega) | (simp; omega))
            refine Hb.take (v := .bool false) 3 44 rfl ?_ (fun _ _ => rfl)
            refine Hb.take (v := mv (PMsg.ofN [x0, x1, x2, x3, x4, x5, x6, x7, x8, x9, x10, x11, x12] es) A3 c3) 4 45 rfl ?_ (fun w' hw' => by exact run_loadM ((KM7.out.past B8.out).past hw') rfl)
            refine Hb.take (v := nv13 [x0, x1, x2, x3, x4, x5, x6, x7, x8, x9, x10, x11, x12]) 6 47 rfl ?_ (fun w' hw' => by exact run_loadN ((KN7.out.past B8.out).past hw') rfl)
            refine Hb.call (f := 26) (args := #[mv (PMsg.ofN [x0, x1, x2, x3, x4, x5, x6, x7, x8, x9, x10, x11, x12] es) A3 c3]) 5 46 rfl ?_ (run_callf Tryd.func26 (by kernel_rfl) (by kernel_rfl) (by simp only [List.map_toArray, List.map_cons, List.map_nil]; rfl))
            refine (wNums_c w8 (PMsg.ofN [x0, x1, x2, x3, x4, x5, x6, x7, x8, x9, x10, x11, x12] es) A3 c3).mono ?_
            rintro x w9 ⟨rfl, b9⟩
            have B9 := Lib.hid (B8.out.trans (b9.mono B8.out.size))
            refine Hb.back b9 b9.size ?_
            refine Hb.take (v := .bool true) 7 48 rfl ?_ (fun w' hw' => by exact run_numsNe rfl rfl HLM.out rfl HQ.out)
            refine Hb.take (v := .bool true) 8 49 rfl ?_ (fun _ _ => rfl)
            refine Hb.done ?_
-- END
            have BL9 := Lib.hid (BL7.out.trans (B9.out.mono BL7.out.size))
            have KZ9 := Lib.hid (KZ7.out.past B9.out)
            go_wp2_with ((with_reducible show wpList _ _ _ ((⟨none, Op.store 24 (.tmp 2) _, _, _, _, _⟩ : Oper) :: _) _ _); go_must (refine wpList_store_row rfl 24 (.tmp 2) (.tmp 50) rfl w.heap.size _ rfl rfl _ _ KZ9.out (by kernel_rfl) (by rfl) (by kernel_rfl) ?_))
            have K2 := KZ9.out.row #[.int .i64 0, .int .i64 0, .int .i64 0, .int .i64 0, .int .i64 0, .int .i64 0, .int .i64 0, .int .i64 0, .slice none 0 0, .int .i64 0, .int .i64 0, .int .i64 0, .bool false]
            have B2 := grown_below (grown_row w9 w.heap.size #[.int .i64 0, .int .i64 0, .int .i64 0, .int .i64 0, .int .i64 0, .int .i64 0, .int .i64 0, .int .i64 0, .slice none 0 0, .int .i64 0, .int .i64 0, .int .i64 0, .bool false]) (Nat.le_refl _) BL9.out.size
            refine bodyPost_ret (v := .tuple #[mv zeroM none 0, .int .i64 1]) (results_rowB rfl _ _ w.heap.size _ _ _ _ rfl rfl K2 Tryd.underlying24 rfl (by kernel_rfl)) rfl ?_
            rw [HD.out]
            exact ⟨none, 0, rfl, Rd.nil _ _ _, BL9.out.trans B2⟩
          · have HD := Lib.hid (HRR.out.trans (if_pos ⟨hm, of_decide_eq_true hq⟩))
            have HQ := Lib.hid (show (!decide (PMsg.ns (PMsg.ofN [x0, x1, x2, x3, x4, x5, x6, x7, x8, x9, x10, x11, x12] es) = [x0, x1, x2, x3, x4, x5, x6, x7, x8, x9, x10, x11, x12])) = false by rw [hq]; rfl)
            clear hm hq
-- REGION curfew/wire.Decode 11 wdec11c 12
            refine Hb.begin ?_
            refine Hb.take (v := mv (PMsg.ofN [x0, x1, x2, x3, x4, x5, x6, x7, x8, x9, x10, x11, x12] es) A3 c3) 0 41 rfl ?_ (fun w' hw' => by exact run_loadM (KM7.out.drew.past hw') rfl)
            refine Hb.call (f := 11) (args := #[mv (PMsg.ofN [x0, x1, x2, x3, x4, x5, x6, x7, x8, x9, x10, x11, x12] es) A3 c3]) 1 42 rfl ?_ (run_callf Tryd.func11 (by kernel_rfl) (by kernel_rfl) (by simp only [List.map_toArray, List.map_cons, List.map_nil]; rfl))
            refine (wMay_c w7.drew (PMsg.ofN [x0, x1, x2, x3, x4, x5, x6, x7, x8, x9, x10, x11, x12] es) A3 c3 RE7.out HX6.out).mono ?_
            rw [HM.out]
            rintro x w8 ⟨rfl, b8⟩
            have B8 := Lib.hid (show Below w7.heap.size w7 w8 from (Below.refl _ _).drew.trans b8)
            refine Hb.back b8 b8.size ?_
            refine Hb.take (v := .bool false) 2 43 rfl ?_ (fun w' hw' => by go_simp; first | done | rfl | omega | exact wrap_in (by omega) (by omega) | exact Int.tmod_eq_emod_of_nonneg (by omega) | exact Int.tdiv_eq_ediv_of_nonneg (by omega) | (simp; omega))
            refine Hb.take (v := .bool false) 3 44 rfl ?_ (fun _ _ => rfl)
            refine Hb.take (v := mv (PMsg.ofN [x0, x1, x2, x3, x4, x5, x6, x7, x8, x9, x10, x11, x12] es) A3 c3) 4 45 rfl ?_ (fun w' hw' => by exact run_loadM ((KM7.out.past B8.out).past hw') rfl)
            refine Hb.take (v := nv13 [x0, x1, x2, x3, x4, x5, x6, x7, x8, x9, x10, x11, x12]) 6 47 rfl ?_ (fun w' hw' => by exact run_loadN ((KN7.out.past B8.out).past hw') rfl)
            refine Hb.call (f := 26) (args := #[mv (PMsg.ofN [x0, x1, x2, x3, x4, x5, x6, x7, x8, x9, x10, x11, x12] es) A3 c3]) 5 46 rfl ?_ (run_callf Tryd.func26 (by kernel_rfl) (by kernel_rfl) (by simp only [List.map_toArray, List.map_cons, List.map_nil]; rfl))
            refine (wNums_c w8 (PMsg.ofN [x0, x1, x2, x3, x4, x5, x6, x7, x8, x9, x10, x11, x12] es) A3 c3).mono ?_
            rintro x w9 ⟨rfl, b9⟩
            have B9 := Lib.hid (B8.out.trans (b9.mono B8.out.size))
            refine Hb.back b9 b9.size ?_
            refine Hb.take (v := .bool false) 7 48 rfl ?_ (fun w' hw' => by exact run_numsNe rfl rfl HLM.out rfl HQ.out)
            refine Hb.take (v := .bool false) 8 49 rfl ?_ (fun _ _ => rfl)
            refine Hb.done ?_
-- END
            have BL9 := Lib.hid (BL7.out.trans (B9.out.mono BL7.out.size))
            have KZ9 := Lib.hid (KZ7.out.past B9.out)
            have KM9 := Lib.hid (KM7.out.past B9.out)
            go_wp2_with (first
              | ((with_reducible show wpList _ _ _ ((⟨some 51, Op.load _ _, _, _, _, _⟩ : Oper) :: _) _ _); go_must (refine wpList_load_row rfl 24 (.tmp 10) rfl g6 rfl 24 #[.int .i64 x0, .int .i64 x1, .int .i64 x2, .int .i64 x3, .int .i64 x4, .int .i64 x5, .int .i64 x6, .int .i64 x7, .slice A3 es.length c3, .int .i64 x8, .int .i64 x9, .int .i64 x10, .bool (x11 == 1)] (0, 0) _ KM9.out Tryd.underlying24 rfl (by kernel_rfl) ?_))
              | ((with_reducible show wpList _ _ _ ((⟨none, Op.store 24 (.tmp 2) _, _, _, _, _⟩ : Oper) :: _) _ _); go_must (refine wpList_store_row rfl 24 (.tmp 2) (.tmp 51) rfl w.heap.size _ rfl rfl _ _ KZ9.out (by kernel_rfl) (by rfl) (by kernel_rfl) ?_)))
            have K2 := KZ9.out.row #[.int .i64 x0, .int .i64 x1, .int .i64 x2, .int .i64 x3, .int .i64 x4, .int .i64 x5, .int .i64 x6, .int .i64 x7, .slice A3 es.length c3, .int .i64 x8, .int .i64 x9, .int .i64 x10, .bool (x11 == 1)]
            have b2 := grown_row w9 w.heap.size #[.int .i64 x0, .int .i64 x1, .int .i64 x2, .int .i64 x3, .int .i64 x4, .int .i64 x5, .int .i64 x6, .int .i64 x7, .slice A3 es.length c3, .int .i64 x8, .int .i64 x9, .int .i64 x10, .bool (x11 == 1)]
            have B2 := grown_below b2 (Nat.le_refl _) BL9.out.size
            refine bodyPost_ret (v := .tuple #[mv (PMsg.ofN [x0, x1, x2, x3, x4, x5, x6, x7, x8, x9, x10, x11, x12] es) A3 c3, .int .i64 0]) (results_rowB rfl _ _ w.heap.size _ _ _ _ rfl rfl K2 Tryd.underlying24 rfl (by kernel_rfl)) rfl ?_
            rw [HD.out]
            refine ⟨A3, c3, rfl, ?_, BL9.out.trans B2⟩
            refine (Rd.touch (S := [w.heap.size]) (RE7.out.past B9.out) (Touch.of_grown b2) (fun h0 s hs => ?_)).tight
            obtain ⟨g, rfl, hg, -⟩ := HOWN.out (show 0 < es.length by have h0 : 0 < es.length * 7 := h0; omega)
            obtain rfl := List.mem_singleton.1 hs
            intro e
            have e2 : g = w.heap.size := by simpa [bk] using e
            have := HW4.out
            omega
end Go.Proofs.YtgcpofiecbpfbaaDoor

/- Contract of Encode of messages. -/
namespace Go.Proofs.YtgcpofiecbpfbaaDoor
open Go.RowKit

set_option maxHeartbeats 8000000 in
set_option maxRecDepth 100000 in
theorem wEncode_c (w : World) (m : Msg) (A : Option Addr) (c : Nat) (h : Rd w w.heap.size A c 7 m.es.length (els m.es)) (hm : -9223372036854775808 ≤ m.mem ∧ m.mem ≤ 9223372036854775807) (ht : Tab w) :
    Calls Tryd.prog 15 #[mv m A c] w fun x w' => ∃ (A' : Option Addr) (c' : Nat), x = .returned (.slice A' (PMsg.enc m).length c') ∧
      w'.ownsRow w.heap.size 5 1 (.slice A' (PMsg.enc m).length c') (PMsg.enc m).length (bs (PMsg.enc m)) ∧ Below w.heap.size w w' := by
  have b1 := (Below.refl w.heap.size w).alloc (Nat.le_refl _) (.cells #[.int .i64 m.kind, .int .i64 m.fr, .int .i64 m.dst, .int .i64 m.boot, .int .i64 m.view, .int .i64 m.last, .int .i64 m.mem, .int .i64 m.pos, .slice A m.es.length c, .int .i64 m.com, .int .i64 m.num, .int .i64 m.clk, .bool m.yes] 24)
  have K0 := Blk.new w #[.int .i64 m.kind, .int .i64 m.fr, .int .i64 m.dst, .int .i64 m.boot, .int .i64 m.view, .int .i64 m.last, .int .i64 m.mem, .int .i64 m.pos, .slice A m.es.length c, .int .i64 m.com, .int .i64 m.num, .int .i64 m.clk, .bool m.yes] 24
  have R0 := Lib.hid h
  have HT := Lib.hid ht
  have HN := Lib.hid (fun w => wNums_c w m A c)
  have HL := Lib.hid (PMsg.ns_length m)
  clear h ht
  show Calls _ _ #[.agg #[.int .i64 m.kind, .int .i64 m.fr, .int .i64 m.dst, .int .i64 m.boot, .int .i64 m.view, .int .i64 m.last, .int .i64 m.mem, .int .i64 m.pos, .slice A m.es.length c, .int .i64 m.com, .int .i64 m.num, .int .i64 m.clk, .bool m.yes]] _ _
  go_enter Tryd.func15, Tryd.ntmps15
  go_wp2_with fail
  generalize w.alloc (.cells #[.int .i64 m.kind, .int .i64 m.fr, .int .i64 m.dst, .int .i64 m.boot, .int .i64 m.view, .int .i64 m.last, .int .i64 m.mem, .int .i64 m.pos, .slice A m.es.length c, .int .i64 m.com, .int .i64 m.num, .int .i64 m.clk, .bool m.yes] 24) = w1 at *
  have BL1 := Lib.hid b1
  have K1 := Lib.hid (show Blk w1 w.heap.size 24 (mcs m A c) from K0)
  clear b1 K0
  refine (wMay_c w1 m A c ((R0.out.past BL1.out).tight) hm).mono ?_
  cases hy : PMsg.may m
  · have HE := Lib.hid (PMsg.enc_no hy)
    rintro x w2 ⟨rfl, b2⟩
    have B2 := Lib.hid (BL1.out.trans (b2.mono BL1.out.size))
    clear b2 hy HN K1
    go_wp2_with fail
    go_ret
    exact ⟨none, 0, by rw [HE.out]; rfl, by rw [HE.out]; exact World.ownsRow_nil _ _ _ _, B2.out⟩
  · have HE := Lib.hid (PMsg.enc_yes hy)
    have hM := (PMsg.may_iff m).1 hy
    have HNF := Lib.hid (PMsg.ns_fit hM)
    have HES := Lib.hid hM.2.2.2.2.2.2.2.2.2.2.2.2
    have HBL := Lib.hid (PMsg.body_len hM)
    have HBD := Lib.hid (show PMsg.body m = PEnt.encN (PMsg.ns m) ++ PEnt.enc m.es from rfl)
    have HBB := Lib.hid (PMsg.body_byte m)
    rintro x w2 ⟨rfl, b2⟩
    have BL2 := Lib.hid (BL1.out.trans (b2.mono BL1.out.size))
    have K2 := Lib.hid (K1.out.past b2)
    clear b2 hy hM K1 BL1 hm
    go_wp2_with ((with_reducible show wpList _ _ _ ((⟨some 9, Op.load _ _, _, _, _, _⟩ : Oper) :: _) _ _); go_must (refine wpList_load_row rfl 24 (.tmp 1) rfl w.heap.size rfl 24 #[.int .i64 m.kind, .int .i64 m.fr, .int .i64 m.dst, .int .i64 m.boot, .int .i64 m.view, .int .i64 m.last, .int .i64 m.mem, .int .i64 m.pos, .slice A m.es.length c, .int .i64 m.com, .int .i64 m.num, .int .i64 m.clk, .bool m.yes] (0, 0) _ K2.out Tryd.underlying24 rfl (by kernel_rfl) ?_))
    refine (show Calls Tryd.prog 26 #[.agg #[.int .i64 m.kind, .int .i64 m.fr, .int .i64 m.dst, .int .i64 m.boot, .int .i64 m.view, .int .i64 m.last, .int .i64 m.mem, .int .i64 m.pos, .slice A m.es.length c, .int .i64 m.com, .int .i64 m.num, .int .i64 m.clk, .bool m.yes]] w2 (fun x w' => x = .returned (.agg ((PMsg.ns m).map (Value.int .i64)).toArray) ∧ Below w2.heap.size w2 w') from HN.out w2).mono ?_
    generalize PMsg.ns m = N at *
    generalize PMsg.body m = Y at *
    rintro x w3 ⟨rfl, b3⟩
    have B3 := Lib.hid (BL2.out.trans (b3.mono BL2.out.size))
    have K3 := Lib.hid (K2.out.past b3)
    clear b3 K2 BL2 HN
    go_wp2_with fail
    go_loopw [3, 5, 11] (fun s3 _ s11 wr => ∃ (i q c' : Nat) (A' : Option Addr), i ≤ 13 ∧ q ≤ 10 * i ∧ s11 = .int .i64 i ∧ s3 = .slice A' q c' ∧ Hid (wr.ownsRow w.heap.size 5 1 (.slice A' q c') q (bs (PEnt.encN (N.take i)))) ∧ Hid (Below w.heap.size w wr) ∧ Hid (Blk wr w.heap.size 24 (mcs m A c)))
      (fun _ _ s11 _ => 13 - (intOf s11).toNat)
    case atStart => exact ⟨0, 0, 0, none, by omega, by omega, rfl, rfl, Lib.hid (World.ownsRow_nil _ _ _ _), B3, K3⟩
    case round =>
      clear B3 K3
      obtain ⟨i, q, c1, A1, hi, hq, rfl, rfl, O, B, K⟩ := hrel
      by_cases hlt : i < 13
      · obtain ⟨x, hx⟩ : ∃ x, N[i]? = some x := ⟨_, List.getElem?_eq_getElem (by rw [HL.out]; exact hlt)⟩
        have hxf := HNF.out x (List.mem_of_getElem? hx)
        have HS := Lib.hid (encN_snoc hx)
        have HX := Lib.hid hx
        have ht := PNum.sev_ten (PNum.zig x) (PNum.zig_lt x hxf.1 hxf.2)
        have HT1 := Lib.hid ht
        have HFX := Lib.hid hxf
        clear hx ht hxf
        go_wp2_with (with_reducible show wpList _ _ _ ((⟨some 13, Op.index _ _ _, _, _, _, _⟩ : Oper) :: _) _ _
                     go_must (refine wpList_index1 rfl 50 (.tmp 10) (.tmp 11) rfl 13 2 Tryd.underlying50 Tryd.isAgg2 Tryd.sizeOf2 (N.map (Value.int .i64)) rfl i rfl hlt (.int .i64 x) (by rw [List.getElem?_map, HX.out]; rfl) ?_))
        refine (Put_c wr _ A1 c1 q _ x (Rd.of_own O.out) (by omega) HFX.out.1 HFX.out.2).mono ?_
        rintro e w2 ⟨A2, c2, rfl, hown, b2⟩
        have O2 := Lib.hid (own_from hown B.out.size)
        have B2 := Lib.hid (B.out.trans (b2.mono B.out.size))
        have K2 := Lib.hid (K.out.past b2)
        clear hown b2 O B K
        go_wp2_with fail
        go_roundw
        case rel => exact ⟨i + 1, _, c2, A2, by omega, by have := HT1.out; omega, by go_num, rfl, Lib.hid (by rw [HS.out]; exact O2.out), B2, K2⟩
        case measure => simp [intOf]; omega
      · obtain rfl : i = 13 := by omega
        have hN : N.take 13 = N := List.take_of_length_le (by rw [HL.out]; omega)
        rw [hN] at O
        have c8 := K.out.cell (i := 8) rfl
        have RE := Lib.hid ((R0.out.past B.out).tight)
        clear hN K
        go_wp2_with fail
        clear c8
        refine (Encode_c wr _ A c m.es.length m.es RE.out (by have := HES.out.1; omega)).mono ?_
        rw [encode_good HES.out.2]
        rintro e w2 ⟨A2, c2, rfl, hown, b2⟩
        have B2 := Lib.hid (B.out.trans (b2.mono B.out.size))
        have O2 := Lib.hid (own_below O.out b2)
        have R2 := Lib.hid (Rd.of_own hown)
        have HQ := Lib.hid (show q + (PEnt.enc m.es).length = Y.length by
          rw [HBD.out, List.length_append]
          have := (Rd.of_own O.out).blen
          omega)
        have HYL := HBL.out
        clear hown b2 O B RE
        generalize hj : (PEnt.enc m.es).length = j at *
        have HJ := Lib.hid (show j ≤ 5290 by have := HQ.out; omega)
        clear hj
        go_wp2_with (at_builtin; go_must (refine wpList_app rfl (.tmp 18) (.tmp 21) _ rfl w.heap.size 5 _ 1 1 Tryd.underlying29 byte_info rfl (by omega) _ q _ rfl O2.out _ A2 c2 j _ rfl R2.out (bs_one _) ?c1 ?c2 ?c3 ?_))
        case c1 => have := HJ.out; unfold maxLen; omega
        case c2 => have := HJ.out; omega
        case c3 => exact B2.out.size
        intro A6 c6 w6 hown6 hgrow6 hbel6
        have B6 := Lib.hid (B2.out.trans hbel6)
        rw [← bs_append, ← HBD.out, HQ.out] at hown6
        have R6 := Lib.hid (Rd.of_own hown6)
        have hq2 := HQ.out
        clear hown6 hgrow6 hbel6 B2 O2 R2
        go_wp2_with fail
        rw [hq2]
        refine (Seal_c w6 _ A6 c6 Y.length Y R6.out HBB.out (HT.out.past B6.out) (by omega)).mono ?_
        rintro e w7 ⟨A7, c7, rfl, hown, b7⟩
        have B7 := Lib.hid (B6.out.trans (b7.mono B6.out.size))
        have O7 := Lib.hid (own_from hown B6.out.size)
        have HEL := Lib.hid (show (PMsg.enc m).length = Y.length + 4 by rw [HE.out, sealed_length])
        clear hown b7
        go_wp2_with fail
        go_ret
        refine ⟨A7, c7, by rw [HEL.out]; rfl, ?_, B7.out⟩
        rw [HEL.out, HE.out]
        exact O7.out
end Go.Proofs.YtgcpofiecbpfbaaDoor

