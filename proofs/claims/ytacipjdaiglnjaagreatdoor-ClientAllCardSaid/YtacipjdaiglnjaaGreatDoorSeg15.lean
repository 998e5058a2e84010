/- One byte of a number. -/
import Derived.Test.YtacipjdaiglnjaaGreatDoorRows
import Derived.Test.YtacipjdaiglnjaaGreatDoorSeg1
import Derived.Lib.Zigzag
import Derived.Deep.DeepMust
import Derived.Laws.BitsAllLaws
import Derived.Test.YtacipjdaiglnjaaGreatDoorSeg13
import Derived.Test.YtacipjdaiglnjaaGreatDoorSeg2
import Derived.Test.YtacipjdaiglnjaaGreatDoorSeg14
import Derived.Test.YtacipjdaiglnjaaGreatDoorSeg10
import Derived.Test.YtacipjdaiglnjaaGreatDoorSeg12
import Derived.Laws.StructEq
namespace Go.Proofs.YtacipjdaiglnjaaGreatDoor
open Go.RowKit

end Go.Proofs.YtacipjdaiglnjaaGreatDoor

/- Contract of unfold. -/
namespace Go.Proofs.YtacipjdaiglnjaaGreatDoor
open Go.RowKit

theorem unfold_c (u : Nat) (w : World) (h2 : u < 18446744073709551616) :
    Calls Tryz.prog 206 #[.int .u64 u] w fun e w' => e = .returned (.int .i64 (PNum.unzig u)) ∧ w = w' := by
  have key : bits BinOp.xor IntKind.i64 ((u : Int) / 2) (wrap64 (-wrap64 (bits BinOp.and IntKind.u64 (↑u) 1))) = PNum.unzig u := by
    rw [Lib.u64_and1 _ (by omega) (by omega)]
    by_cases hn : u % 2 = 0
    · have e : (u : Int) % 2 = 0 := by omega
      have e1 : ((u : Int) / 2) = ((u / 2 : Nat) : Int) := by omega
      rw [e, e1, show wrap64 (-wrap64 0) = 0 from by unfold wrap64; decide]
      unfold PNum.unzig; rw [if_pos hn]
      show IntKind.i64.wrap ((BitVec.ofInt 64 ((u / 2 : Nat) : Int) ^^^ BitVec.ofInt 64 0).toNat : Int) = _
      have h2 : (BitVec.ofInt 64 ((u / 2 : Nat) : Int)).toNat = u / 2 := by
        rw [BitVec.ofInt_natCast, BitVec.toNat_ofNat]; exact Nat.mod_eq_of_lt (by omega)
      have h3 : (BitVec.ofInt 64 0).toNat = 0 := by decide
      rw [BitVec.toNat_xor, h2, h3, Nat.xor_zero, IntKind.wrap_i64]; omega
    · have e : (u : Int) % 2 = 1 := by omega
      have e1 : ((u : Int) / 2) = ((u / 2 : Nat) : Int) := by omega
      have e2 : wrap64 (-wrap64 1) = -1 := by unfold wrap64; decide
      rw [e, e1, e2]
      unfold PNum.unzig; rw [if_neg hn]
      have := Lib.i64_not (u / 2) (by omega)
      rw [← this]
      show IntKind.i64.wrap ((BitVec.ofInt 64 ((u / 2 : Nat) : Int) ^^^ BitVec.ofInt 64 (-1)).toNat : Int) = IntKind.i64.wrap ((BitVec.ofInt 64 (-1) ^^^ BitVec.ofInt 64 ((u / 2 : Nat) : Int)).toNat : Int)
      rw [BitVec.xor_comm]
  have K := Lib.hid key; clear key
  go_enter Tryz.func206, Tryz.ntmps206
  go_wp2
  go_ret
  exact ⟨congrArg (fun x => Ending.returned (.int .i64 x)) K.out, rfl⟩

end Go.Proofs.YtacipjdaiglnjaaGreatDoor

/- Contract of num.Get. -/
namespace Go.Proofs.YtacipjdaiglnjaaGreatDoor
open Go.RowKit

/-- A number, how many bytes, an error, as Go hands them back. -/
def tup3 (r : Int × Int × Int) : Value := .tuple #[.int .i64 r.1, .int .i64 r.2.1, .int .i64 r.2.2]

theorem and_lo (x : Int) (h0 : 0 ≤ x) (h : x < 128) : bits BinOp.and IntKind.u8 x 128 = 0 := by
  rw [u8_and _ _ h0 (by omega) (by omega) (by omega), show (128 : Int).toNat = 128 from rfl, nat_bit7]; omega
theorem and_hi (x : Int) (h0 : 128 ≤ x) (h : x < 256) : bits BinOp.and IntKind.u8 x 128 = 128 := by
  rw [u8_and _ _ (by omega) h (by omega) (by omega), show (128 : Int).toNat = 128 from rfl, nat_bit7]; omega
theorem andNot_ (x : Int) (h0 : 0 ≤ x) (h : x < 256) : bits BinOp.andNot IntKind.u8 x 128 = ((x.toNat % 128 : Nat) : Int) := by
  rw [u8_andNot _ _ h0 h (by omega) (by omega), show (255 - (128 : Int).toNat) = 127 from rfl, nat_mask7]
theorem gather (acc i : Nat) (x : Int) (h0 : 0 ≤ x) (h : x < 256) (hi : i ≤ 9) (ha : acc < 128 ^ i) (hb : (x.toNat % 128) * 128 ^ i < 18446744073709551616) :
    bits BinOp.or IntKind.u64 (acc : Int) (IntKind.u64.wrap (IntKind.u64.wrap (bits BinOp.andNot IntKind.u8 x 128) * 2 ^ (7 * i))) = ((acc + (x.toNat % 128) * 128 ^ i : Nat) : Int) := by
  rw [andNot_ x h0 h]
  have hy : x.toNat % 128 < 128 := Nat.mod_lt _ (by decide)
  generalize x.toNat % 128 = y at hb hy
  have e : (2 : Nat) ^ (7 * i) = 128 ^ i := by rw [Nat.pow_mul]
  have h9 : (128 : Nat) ^ i ≤ 128 ^ 9 := Nat.pow_le_pow_right (by decide) hi
  have h99 : (128 : Nat) ^ 9 = 9223372036854775808 := by decide
  have e1 : IntKind.u64.wrap (y : Int) = y := by rw [IntKind.wrap_u64]; omega
  have e2 : (y : Int) * 2 ^ (7 * i) = ((y * 128 ^ i : Nat) : Int) := by rw [← e]; push_cast; rfl
  have e3 : IntKind.u64.wrap ((y * 128 ^ i : Nat) : Int) = ((y * 128 ^ i : Nat) : Int) := by rw [IntKind.wrap_u64]; omega
  rw [e1, e2, e3, u64_or_nat _ _ (by omega) hb, Nat.or_comm, nat_join (7 * i) _ _ (by rw [e]; exact Nat.mul_mod_left _ _) (by rw [e]; exact ha), Nat.add_comm]

theorem acc_next (acc i : Nat) (x : Int) (ha : acc < 128 ^ i) : acc + (x.toNat % 128) * 128 ^ i < 128 ^ (i + 1) := by
  have hy : x.toNat % 128 < 128 := Nat.mod_lt _ (by decide)
  rw [Nat.pow_succ]
  have := Nat.mul_le_mul_right (128 ^ i) (Nat.le_of_lt_succ hy : x.toNat % 128 ≤ 127)
  omega
theorem room (i : Nat) (x : Int) (hi : i ≤ 9) (h9 : ¬ (i = 9 ∧ 1 < x)) : (x.toNat % 128) * 128 ^ i < 18446744073709551616 := by
  have hy : x.toNat % 128 < 128 := Nat.mod_lt _ (by decide)
  by_cases e : i = 9
  · subst e
    have : x.toNat % 128 ≤ 1 := by omega
    have := Nat.mul_le_mul_right (128 ^ 9) this
    omega
  · have h8 : (128 : Nat) ^ i ≤ 128 ^ 8 := Nat.pow_le_pow_right (by decide) (by omega)
    have := Nat.mul_le_mul (Nat.le_of_lt_succ hy : x.toNat % 128 ≤ 127) h8
    omega

theorem accU (acc i : Nat) (x : Int) (hi : i ≤ 9) (h9 : ¬ (i = 9 ∧ 1 < x)) (ha : acc < 128 ^ i) : acc + (x.toNat % 128) * 128 ^ i < 18446744073709551616 := by
  by_cases e : i = 9
  · subst e
    have : x.toNat % 128 ≤ 1 := by omega
    have := Nat.mul_le_mul_right (128 ^ 9) this
    omega
  · have := acc_next acc i x ha
    have h8 : (128 : Nat) ^ (i + 1) ≤ 128 ^ 9 := Nat.pow_le_pow_right (by decide) (by omega)
    omega

set_option maxRecDepth 100000 in
theorem Get_c (w : World) (B : Nat) (A : Option Addr) (c n : Nat) (l : List Int) (h : Rd w B A c 1 n (bs l)) (hb : isB l) :
    Calls Tryz.prog 186 #[.slice A n c] w fun e w' => e = .returned (tup3 (PNum.getB 0 0 l)) ∧ w = w' := by
  have hlen := h.blen
  have HL := Lib.hid hlen; clear hlen
  have hm := h.le
  have hm2 := h.cap
  have hn : n ≤ 9223372036854775807 := by unfold maxLen at hm2; omega
  clear hm hm2
  go_enter Tryz.func186, Tryz.ntmps186
  go_wp2
  go_loop [5, 10] (fun s5 s10 => ∃ (i acc : Nat), s5 = .int .u64 acc ∧ s10 = .int .i64 i ∧ i ≤ n ∧ i ≤ 9 ∧ acc < 128 ^ i ∧ PNum.getB i acc (l.drop i) = PNum.getB 0 0 l)
    (fun _ s10 => n - (intOf s10).toNat)
  case atStart => exact ⟨0, 0, rfl, rfl, by omega, by omega, by decide, rfl⟩
  case round =>
    obtain ⟨i, acc, rfl, rfl, hi, hi9, hacc, hg⟩ := hrel
    have HG := Lib.hid hg; clear hg
    have HA := Lib.hid hacc; clear hacc
    by_cases hlt : i < n
    · obtain ⟨b, o, x, rfl, hc, hd, hx0, hx1, hxl⟩ := h.byte hb hlt
      clear hxl
      have HD := Lib.hid hd; clear hd
      by_cases h9 : i = 9 ∧ 1 < x
      · obtain ⟨rfl, h1⟩ := h9
        go_wp2
        go_ret3
        refine ⟨?_, rfl⟩
        rw [← HG.out, HD.out, PNum.getB, if_pos ⟨rfl, h1⟩]; rfl
      · have HJ := Lib.hid h9
        have hj := gather acc i x hx0 hx1 hi9 HA.out (room i x hi9 h9)
        by_cases h128 : x < 128
        · have hz := and_lo x hx0 h128
          have hU := accU acc i x hi9 h9 HA.out
          have HU := Lib.hid hU; clear hU h9
          by_cases h0 : x = 0 ∧ 0 < i
          · obtain ⟨rfl, h1⟩ := h0
            by_cases e9 : i = 9
            · have t9 : ((i : Int) == 9) = true := by simp; omega
              have E9 := Lib.hid e9; clear e9
              go_wp2
              go_ret3
              refine ⟨?_, rfl⟩
              rw [← HG.out, HD.out, PNum.getB, if_neg (by omega), if_pos (by omega), if_pos ⟨rfl, h1⟩]; rfl
            · have t9 : ((i : Int) == 9) = false := by simp; omega
              go_wp2
              go_ret3
              refine ⟨?_, rfl⟩
              rw [← HG.out, HD.out, PNum.getB, if_neg (by omega), if_pos (by omega), if_pos ⟨rfl, h1⟩]; rfl
          · have fin : PNum.getB 0 0 l = (PNum.unzig (acc + x.toNat % 128 * 128 ^ i), (i : Int) + 1, 0) := by
              rw [← HG.out, HD.out, PNum.getB, if_neg HJ.out, if_pos h128, if_neg h0]
              have : x.toNat % 128 = x.toNat := by omega
              rw [this]
            have FIN := Lib.hid fin; clear fin
            generalize acc + x.toNat % 128 * 128 ^ i = U at *
            by_cases e9 : i = 9
            · have t9 : ((i : Int) == 9) = true := by simp; omega
              have hx : ¬ 1 < x := by have := HJ.out; omega
              have E9 := Lib.hid e9; clear e9
              have t0 : (x == 0) = false := by have := E9.out; simp; omega
              go_wp2_with fail
              refine (unfold_c U w HU.out).mono ?_
              rintro e w' ⟨rfl, rfl⟩
              go_wp2
              go_ret3
              exact ⟨by rw [FIN.out]; rfl, rfl⟩
            · have t9 : ((i : Int) == 9) = false := by simp; omega
              by_cases e0 : x = 0
              · have t0 : (x == 0) = true := by simp; omega
                have i0 : ¬ 0 < i := by omega
                have E0 := Lib.hid e0; clear e0 h0
                go_wp2_with fail
                refine (unfold_c U w HU.out).mono ?_
                rintro e w' ⟨rfl, rfl⟩
                go_wp2
                go_ret3
                exact ⟨by rw [FIN.out]; rfl, rfl⟩
              · have t0 : (x == 0) = false := by simp; omega
                clear h0
                go_wp2_with fail
                refine (unfold_c U w HU.out).mono ?_
                rintro e w' ⟨rfl, rfl⟩
                go_wp2
                go_ret3
                exact ⟨by rw [FIN.out]; rfl, rfl⟩
        · have hz := and_hi x (by omega) hx1
          have t9 : ((i : Int) == 9) = false := by simp; omega
          have nxt := acc_next acc i x HA.out
          have fin : PNum.getB (i + 1) (acc + x.toNat % 128 * 128 ^ i) (l.drop (i + 1)) = PNum.getB 0 0 l := by
            rw [← HG.out, HD.out, PNum.getB, if_neg h9, if_neg h128]
            have : x.toNat % 128 = x.toNat - 128 := by omega
            rw [this]
          have FIN := Lib.hid fin; clear fin
          have NXT := Lib.hid nxt; clear nxt h9
          generalize acc + x.toNat % 128 * 128 ^ i = U at *
          go_wp2
          go_round
          case rel => exact ⟨i + 1, U, rfl, by go_num, by omega, by have := HJ.out; omega, NXT.out, FIN.out⟩
          case measure => simp [intOf]; omega
    · go_wp2
      go_ret3
      refine ⟨?_, rfl⟩
      have h1 := HG.out
      rw [List.drop_of_length_le (by have := HL.out; omega)] at h1
      rw [← h1]; rfl

end Go.Proofs.YtacipjdaiglnjaaGreatDoor

/- Contract of num.GetText. -/
namespace Go.Proofs.YtacipjdaiglnjaaGreatDoor
open Go.RowKit

/-- A text, how many bytes, an error, as Go hands them back. -/
def tupT (r : List Int × Int × Int) : Value := .tuple #[.string (strOfNums r.1), .int .i64 r.2.1, .int .i64 r.2.2]
set_option maxRecDepth 100000 in
theorem GetText_c (w : World) (B : Nat) (A : Option Addr) (c n : Nat) (l : List Int) (h : Rd w B A c 1 n (bs l)) (hb : isB l) (hn : n ≤ 1000000000000) :
    Calls Tryz.prog 207 #[.slice A n c] w fun e w' => e = .returned (tupT (PNum.getT l)) ∧ w = w' := by
  have hlen := h.blen
  have hle := h.le
  have hcap := h.cap
  have HN := Lib.hid hn; clear hn
  have HL := Lib.hid hlen; clear hlen
  have HC := Lib.hid hcap; clear hcap
  have herr := PNum.getB_err l 0 0
  have hok := PNum.getB_ok l 0 0
  obtain ⟨⟨x, k, er⟩, hg⟩ : ∃ r, PNum.getB 0 0 l = r := ⟨_, rfl⟩
  rw [hg] at herr hok
  have HG := Lib.hid hg; clear hg
  by_cases h0 : er = 0
  · subst h0
    obtain ⟨hx1, hx2, hk1, hk2⟩ := hok x k hb (by omega) (by decide) rfl
    clear hok herr
    have hX := Lib.hid (And.intro hx1 hx2); clear hx1 hx2
    rw [HL.out] at hk2
    simp at hk1 hk2
    by_cases hneg : x < 0
    · go_enter Tryz.func207, Tryz.ntmps207
      go_wp2_with fail
      refine (Get_c w B A c n l h hb).mono ?_
      rintro e w' ⟨rfl, rfl⟩
      rw [HG.out]
      simp only [tup3]
      go_wp2
      go_ret3
      refine ⟨?_, rfl⟩
      rw [PNum.getT, HG.out, if_pos rfl, if_pos (.inl hneg)]; rfl
    · by_cases hbig : 65536 < x
      · go_enter Tryz.func207, Tryz.ntmps207
        go_wp2_with fail
        refine (Get_c w B A c n l h hb).mono ?_
        rintro e w' ⟨rfl, rfl⟩
        rw [HG.out]
        simp only [tup3]
        go_wp2
        go_ret3
        refine ⟨?_, rfl⟩
        rw [PNum.getT, HG.out, if_pos rfl, if_pos (.inr hbig)]; rfl
      · by_cases hlong : (n : Int) < k + x
        · go_enter Tryz.func207, Tryz.ntmps207
          go_wp2_with fail
          refine (Get_c w B A c n l h hb).mono ?_
          rintro e w' ⟨rfl, rfl⟩
          rw [HG.out]
          simp only [tup3]
          have hn := HN.out
          go_wp2
          go_ret3
          refine ⟨?_, rfl⟩
          rw [PNum.getT, HG.out, if_pos rfl, if_neg (by simp; omega), if_pos (by rw [HL.out]; exact hlong)]; rfl
        · obtain ⟨xn, rfl⟩ := Int.eq_ofNat_of_zero_le (show 0 ≤ x by omega)
          obtain ⟨kn, rfl⟩ := Int.eq_ofNat_of_zero_le (show 0 ≤ k by omega)
          have hn := HN.out
          go_enter Tryz.func207, Tryz.ntmps207
          go_wp2_with fail
          refine (Get_c w B A c n l h hb).mono ?_
          rintro e w' ⟨rfl, rfl⟩
          rw [HG.out]
          simp only [tup3]
          go_wp2_with (with_reducible show wpList _ _ _ ((⟨some 34, Op.slice 68 _ _ _ _, _, _, _, _⟩ : Oper) :: _) _ _
                       go_must (refine wpList_cut rfl 68 (.tmp 31) _ _ rfl 5 _ 1 1 Tryz.underlying68 byte_info B A c n (bs l) rfl h kn (kn + xn) (.inr rfl) (.inr rfl) (by omega) (by omega) ?_))
          intro A' c' hr'
          have e1 : kn + xn - kn = xn := by omega
          try rw [e1] at hr'
          try rw [e1]
          simp only [← bs_drop, ← bs_take] at hr'
          refine wpList_toStr rfl 68 9 (.tmp 34) rfl 5 Tryz.underlying68 Tryz.underlying5 Tryz.underlying9 B A' c' xn _ rfl hr' ?_
          go_wp2
          go_ret3
          refine ⟨?_, rfl⟩
          rw [PNum.getT, HG.out, if_pos rfl, if_neg (by simp; omega), if_neg (by rw [HL.out]; show ¬ (n : Int) < (kn : Int) + (xn : Int); omega)]; rfl
  · go_enter Tryz.func207, Tryz.ntmps207
    go_wp2_with fail
    refine (Get_c w B A c n l h hb).mono ?_
    rintro e w' ⟨rfl, rfl⟩
    rw [HG.out]
    simp only [tup3]
    have e0 : (er == 0) = false := by simp; omega
    go_wp2
    go_ret3
    refine ⟨?_, rfl⟩
    rw [PNum.getT, HG.out, if_neg h0]; rfl

end Go.Proofs.YtacipjdaiglnjaaGreatDoor

/- Contracts of entryOf, decodeOne. -/
namespace Go.Proofs.YtacipjdaiglnjaaGreatDoor
open Go.RowKit

theorem results_cell_tmp2 {fn : Func} {p u v : Tmp} {ty : TypeId} (h : fn.results = #[.cell p ty, .tmp u, .tmp v]) (tmps : Array Value) (P : Program) (w : World) :
    (results fn tmps).run P w =
      ((asAddr (tmps.getD p undef)).run P w).andThen fun a w₁ => ((loadVar ty a).run P w₁).andThen fun x w₂ => .ok (.tuple #[x, tmps.getD u undef, tmps.getD v undef]) w₂ := by
  simp only [results, h]
  simp [Sem.run_bind, Result.andThen]
theorem results_row_tmp2 {P : Program} {fn : Func} {p u q : Tmp} {ty : TypeId} (h : fn.results = #[.cell p ty, .tmp u, .tmp q]) (tmps : Array Value) (w : World) (g : Nat) (t : TypeId) (cs : Array Value) (fr : Nat × Nat) (d : TypeDesc)
    {v z : Value} (hp : tmps.getD p undef = .pointer (some ⟨g, 0, none⟩)) (hv : tmps.getD u undef = v) (hz : tmps.getD q undef = z) (hg : w.heap[g]? = some (.cells cs t fr))
    (hu : P.underlying ty = some d) (hd : (match d with | .struct _ | .array _ _ => true | _ => false) = true) (hi : (P.info? ty).map (·.size) = some cs.size) :
    (results fn tmps).run P w = .ok (.tuple #[.agg cs, v, z]) w := by
  rw [results_cell_tmp2 h, hp, hv, hz]
  simp [asAddr, run_loadVar_row w g t ty cs fr d hg hu hd hi, Result.andThen]

set_option maxRecDepth 100000 in
theorem entryOf_c (w : World) (x0 x1 x2 x3 x4 x5 : Int) (d : ByteArray) : Calls Tryz.prog 208 #[.agg #[.int .i64 x0, .int .i64 x1, .int .i64 x2, .int .i64 x3, .int .i64 x4, .int .i64 x5], .string d] w fun x w' => x = .returned (ev ⟨x0, x1, x2, x3, x4, x5, d⟩) ∧ Below w.heap.size w w' := by
  go_enter Tryz.func208, Tryz.ntmps208
  go_wp2_with fail
  have K := Blk.newEnt (w.alloc (.cells #[.int .i64 x0, .int .i64 x1, .int .i64 x2, .int .i64 x3, .int .i64 x4, .int .i64 x5] 260)) 93 ⟨x0, x1, x2, x3, x4, x5, d⟩
  rw [show (w.alloc (.cells #[.int .i64 x0, .int .i64 x1, .int .i64 x2, .int .i64 x3, .int .i64 x4, .int .i64 x5] 260)).heap.size = w.heap.size + 1 by simp] at K
  refine bodyPost_ret (v := ev ⟨x0, x1, x2, x3, x4, x5, d⟩) (results_cell_row rfl _ _ (w.heap.size + 1) _ _ _ _ rfl K Tryz.underlying93 rfl (by kernel_rfl)) rfl ⟨rfl, ((Below.refl _ _).alloc (Nat.le_refl _) _).alloc (by simp) _⟩

/-- An entry, how many bytes, was there one, as Go hands them back. -/
def dtup : Option (Ent × Nat) → Value
  | some (e, k) => .tuple #[ev e, .int .i64 k, .bool true]
  | none => .tuple #[ev zeroE, .int .i64 0, .bool false]

theorem bs_tail {l : List Int} {n p : Nat} (h : l.length = n) : ((bs l).drop p).take (n - p) = bs (l.drop p) := by
  rw [← bs_drop, List.take_of_length_le (by rw [bs_length, List.length_drop]; omega)]
/-- The numbers that were read, then zeros. -/
def six (xs : List Int) : List Value := (xs ++ List.replicate (6 - xs.length) 0).map (Value.int .i64)
theorem six_set (xs : List Int) (x : Int) (h : xs.length < 6) : (six xs).set xs.length (.int .i64 x) = six (xs ++ [x]) := by
  unfold six
  rw [← List.map_set, List.set_append_right _ _ (by omega), Nat.sub_self]
  obtain ⟨k, hk⟩ : ∃ k, 6 - xs.length = k + 1 := ⟨5 - xs.length, by omega⟩
  have hk2 : 6 - (xs ++ [x]).length = k := by simp; omega
  rw [hk, hk2, List.replicate_succ, List.set_cons_zero]
  simp
theorem six_at (xs : List Int) (h : xs.length < 6) : (six xs)[xs.length]? = some (.int .i64 0) := by
  unfold six
  rw [List.getElem?_map, List.getElem?_append_right (by omega), Nat.sub_self, List.getElem?_replicate, if_pos (by omega)]; rfl
/-- The loop's invariant: xs were read of the first p bytes. -/
def N6 (l : List Int) (xs : List Int) (p : Nat) : Prop := PEnt.rdN 6 l = (PEnt.rdN (6 - xs.length) (l.drop p)).map fun q => (xs ++ q.1, p + q.2)
theorem N6.start (l : List Int) : N6 l [] 0 := by
  unfold N6
  simp
theorem N6.none {l xs : List Int} {p : Nat} (h : N6 l xs p) (hx : xs.length < 6) (he : (PNum.getB 0 0 (l.drop p)).2.2 ≠ 0) : PEnt.rdE l = none := by
  obtain ⟨k, hk⟩ : ∃ k, 6 - xs.length = k + 1 := ⟨5 - xs.length, by omega⟩
  unfold N6 at h
  rw [hk] at h
  unfold PEnt.rdE
  generalize PEnt.rdN 6 l = Q at *
  simp only [PEnt.rdN] at h
  rw [if_neg he] at h
  rw [h]; rfl
theorem N6.next {l xs : List Int} {p : Nat} {x : Int} {k : Nat} (h : N6 l xs p) (hx : xs.length < 6) (he : PNum.getB 0 0 (l.drop p) = (x, (k : Int), 0)) : N6 l (xs ++ [x]) (p + k) := by
  obtain ⟨j, hj⟩ : ∃ j, 6 - xs.length = j + 1 := ⟨5 - xs.length, by omega⟩
  have hj2 : 6 - (xs ++ [x]).length = j := by simp; omega
  unfold N6 at h ⊢
  rw [hj] at h
  rw [hj2]
  generalize PEnt.rdN 6 l = Q at *
  simp only [PEnt.rdN] at h
  rw [he, if_pos rfl] at h
  simp only [Int.toNat_natCast, List.drop_drop] at h
  rw [h]
  cases PEnt.rdN j (l.drop (p + k)) with
  | none => rfl
  | some q => simp [Nat.add_assoc]
theorem N6.done {l xs : List Int} {p : Nat} (h : N6 l xs p) (hx : xs.length = 6) : PEnt.rdE l = PEnt.rdT l xs p := by
  unfold N6 at h
  rw [hx] at h
  unfold PEnt.rdE
  generalize PEnt.rdN 6 l = Q at *
  simp only [Nat.sub_self, PEnt.rdN] at h
  rw [h]; simp
theorem list6' {xs : List Int} (h : xs.length = 6) : ∃ a b c d e f, xs = [a, b, c, d, e, f] := by
  match xs, h with
  | [a, b, c, d, e, f], _ => exact ⟨a, b, c, d, e, f, rfl⟩

set_option maxHeartbeats 4000000 in
set_option maxRecDepth 100000 in
theorem decodeOne_c (w : World) (B : Nat) (A : Option Addr) (c n : Nat) (l : List Int) (h : Rd w B A c 1 n (bs l)) (hb : isB l) (hn : n ≤ 1000000) :
    Calls Tryz.prog 187 #[.slice A n c] w fun x w' => x = .returned (dtup (PEnt.rdE l)) ∧ Below w.heap.size w w' := by
  have R0 := Lib.hid h.tight
  have HLn := Lib.hid h.blen
  have HB := Lib.hid hb
  clear h hb
  go_enter Tryz.func187, Tryz.ntmps187
  go_wp2_with fail
  have bel0 := ((Below.refl w.heap.size w).alloc (Nat.le_refl _) (.cells #[.int .i64 0, .int .i64 0, .int .i64 0, .int .i64 0, .int .i64 0, .int .i64 0, .string ⟨#[]⟩] 93)).alloc (by simp) (.cells #[.int .i64 0, .int .i64 0, .int .i64 0, .int .i64 0, .int .i64 0, .int .i64 0] 260)
  have K0 := (Blk.newEnt w 93 zeroE).alloc (.cells #[.int .i64 0, .int .i64 0, .int .i64 0, .int .i64 0, .int .i64 0, .int .i64 0] 260)
  have N0 := Blk.new (w.alloc (.cells #[.int .i64 0, .int .i64 0, .int .i64 0, .int .i64 0, .int .i64 0, .int .i64 0, .string ⟨#[]⟩] 93)) #[.int .i64 0, .int .i64 0, .int .i64 0, .int .i64 0, .int .i64 0, .int .i64 0] 260
  rw [show (w.alloc (.cells #[.int .i64 0, .int .i64 0, .int .i64 0, .int .i64 0, .int .i64 0, .int .i64 0, .string ⟨#[]⟩] 93)).heap.size = w.heap.size + 1 by simp] at N0
  have H0 : Hid (Below w.heap.size w _) := Lib.hid bel0
  have HK0 : Hid (Blk _ w.heap.size 93 (ecs zeroE)) := Lib.hid K0
  have HN0 : Hid (Blk _ (w.heap.size + 1) 260 (six [])) := Lib.hid N0
  clear bel0 K0 N0
  go_loopw [6, 7, 8, 9, 10, 15] (fun s6 _ _ _ _ s15 wr => ∃ (p : Nat) (xs : List Int), xs.length ≤ 6 ∧ p ≤ n ∧ s15 = .int .i64 xs.length ∧ s6 = .int .i64 p ∧ Hid (N6 l xs p) ∧
      Hid (Blk wr w.heap.size 93 (ecs zeroE)) ∧ Hid (Blk wr (w.heap.size + 1) 260 (six xs)) ∧ Hid (Below w.heap.size w wr))
    (fun _ _ _ _ _ s15 _ => 6 - (intOf s15).toNat)
  case atStart => exact ⟨0, [], by simp, by omega, rfl, rfl, Lib.hid (N6.start l), HK0, HN0, H0⟩
  case round =>
    clear H0 HK0 HN0
    obtain ⟨p, xs, hxl, hpn, rfl, rfl, HI, KE, KN, BL⟩ := hrel
    have RW := Lib.hid (R0.out.below BL.out)
    by_cases hlt : xs.length < 6
    · go_wp2_with (with_reducible show wpList _ _ _ ((⟨some 21, Op.slice 68 _ _ _ _, _, _, _, _⟩ : Oper) :: _) _ _
                   go_must (refine wpList_cut rfl 68 (.tmp 19) _ _ rfl 5 _ 1 1 Tryz.underlying68 byte_info _ A c n (bs l) rfl RW.out p n (.inr rfl) (.inl ⟨rfl, rfl⟩) (by omega) (by omega) ?_))
      intro A1 c1 hr1
      rw [bs_tail HLn.out] at hr1
      go_wp2_with fail
      refine (Get_c wr _ A1 c1 (n - p) (l.drop p) hr1 (HB.out.drop p)).mono ?_
      clear hr1
      obtain ⟨⟨x, k, er⟩, hg⟩ : ∃ r, PNum.getB 0 0 (l.drop p) = r := ⟨_, rfl⟩
      rw [hg]
      simp only [tup3]
      rintro e w1 ⟨rfl, rfl⟩
      by_cases h0 : er = 0
      · subst h0
        obtain ⟨_, g2, g3⟩ := PNum.getB_whole (HB.out.drop p) hg
        rw [List.length_drop, HLn.out] at g3
        obtain ⟨k, rfl⟩ := Int.eq_ofNat_of_zero_le (show 0 ≤ k by omega)
        have HI2 := Lib.hid (HI.out.next hlt hg)
        have HSet := Lib.hid (six_set xs x hlt)
        clear hg
        have q0 := KN.out.cell (six_at xs hlt)
        have q1 := KN.out.free xs.length
        have KN2 := Lib.hid (KN.out.set xs.length (.int .i64 x))
        have KE2 := Lib.hid (KE.out.far (grown_set wr (w.heap.size + 1) xs.length (.int .i64 x)) (by omega))
        have B2 := Lib.hid (BL.out.setCell (p := ⟨w.heap.size + 1, xs.length, none⟩) (Nat.le_succ _) (.int .i64 x))
        clear KN KE BL RW HI
        go_wp2_with fail
        go_roundw
        case rel => exact ⟨p + k, xs ++ [x], by simp; omega, by omega, by simp, by go_num, HI2, KE2, Lib.hid (by rw [← HSet.out]; exact KN2.out), B2⟩
        case measure => simp [intOf]; omega
      · have HF := Lib.hid (HI.out.none hlt (by rw [hg]; exact h0))
        have e0 : (er == 0) = false := by simpa using h0
        clear hg h0
        go_wp2_with ((with_reducible show wpList _ _ _ ((⟨none, Op.store 93 (.tmp 2) _, _, _, _, _⟩ : Oper) :: _) _ _); go_must (refine wpList_store_row rfl 93 (.tmp 2) (.tmp 28) rfl w.heap.size _ rfl rfl _ _ KE.out (by kernel_rfl) (by rfl) (by kernel_rfl) ?_))
        have K2 := KE.out.row #[.int .i64 0, .int .i64 0, .int .i64 0, .int .i64 0, .int .i64 0, .int .i64 0, .string ⟨#[]⟩]
        have B2 := grown_below (grown_row wr w.heap.size #[.int .i64 0, .int .i64 0, .int .i64 0, .int .i64 0, .int .i64 0, .int .i64 0, .string ⟨#[]⟩]) (Nat.le_refl _) BL.out.size
        refine bodyPost_ret (v := dtup none) (results_row_tmp2 rfl _ _ w.heap.size _ _ _ _ rfl rfl rfl K2 Tryz.underlying93 rfl (by kernel_rfl)) rfl ⟨by rw [HF.out], BL.out.trans B2⟩
    · have hx6 : xs.length = 6 := by omega
      have HD := Lib.hid (HI.out.done hx6)
      obtain ⟨x0, x1, x2, x3, x4, x5, rfl⟩ := list6' hx6
      have KN1 : Hid (Blk wr (w.heap.size + 1) 260 [.int .i64 x0, .int .i64 x1, .int .i64 x2, .int .i64 x3, .int .i64 x4, .int .i64 x5]) := Lib.hid KN.out
      have hl6 : ([x0, x1, x2, x3, x4, x5].length : Int) = 6 := rfl
      rw [hl6]
      clear hx6 hxl hlt HI KN hl6
      go_wp2_with (with_reducible show wpList _ _ _ ((⟨some 39, Op.slice 68 _ _ _ _, _, _, _, _⟩ : Oper) :: _) _ _
                   go_must (refine wpList_cut rfl 68 (.tmp 37) _ _ rfl 5 _ 1 1 Tryz.underlying68 byte_info _ A c n (bs l) rfl RW.out p n (.inr rfl) (.inl ⟨rfl, rfl⟩) (by omega) (by omega) ?_))
      intro A1 c1 hr1
      rw [bs_tail HLn.out] at hr1
      go_wp2_with fail
      refine (GetText_c wr _ A1 c1 (n - p) (l.drop p) hr1 (HB.out.drop p) (by omega)).mono ?_
      clear hr1
      obtain ⟨⟨s, k, er⟩, hg⟩ : ∃ r, PNum.getT (l.drop p) = r := ⟨_, rfl⟩
      rw [hg]
      simp only [tupT]
      rintro e w1 ⟨rfl, rfl⟩
      by_cases h0 : er = 0
      · subst h0
        obtain ⟨_, g2, g3, _⟩ := PNum.getT_whole (HB.out.drop p) hg
        rw [List.length_drop, HLn.out] at g3
        obtain ⟨k, rfl⟩ := Int.eq_ofNat_of_zero_le (show 0 ≤ k by omega)
        have HT := Lib.hid (show PEnt.rdE l = if PEnt.may ⟨x0, x1, x2, x3, x4, x5, strOfNums s⟩ = true then some (⟨x0, x1, x2, x3, x4, x5, strOfNums s⟩, p + k) else none by
          rw [HD.out]; unfold PEnt.rdT; rw [hg, if_pos rfl]; rfl)
        have q0 := KN1.out.cell (i := 0) rfl
        have q1 := KN1.out.cell (i := 1) rfl
        have q2 := KN1.out.cell (i := 2) rfl
        have q3 := KN1.out.cell (i := 3) rfl
        have q4 := KN1.out.cell (i := 4) rfl
        have q5 := KN1.out.cell (i := 5) rfl
        clear hg HD KN1 RW
        go_wp2_with fail
        clear q0 q1 q2 q3 q4 q5
        refine (entryOf_c wr x0 x1 x2 x3 x4 x5 (strOfNums s)).mono ?_
        rintro e w1 ⟨rfl, b1⟩
        have BL1 := Lib.hid (BL.out.trans (b1.mono BL.out.size))
        have KE1 := Lib.hid (KE.out.past b1)
        clear b1 BL KE
        simp only [ev]
        go_wp2_with fail
        have b1 := (Below.refl w1.heap.size w1).alloc (Nat.le_refl _) (.cells #[.int .i64 x0, .int .i64 x1, .int .i64 x2, .int .i64 x3, .int .i64 x4, .int .i64 x5, .string (strOfNums s)] 93)
        have KX := Blk.newEnt w1 93 ⟨x0, x1, x2, x3, x4, x5, strOfNums s⟩
        have KE3 := KE1.out.alloc (.cells #[.int .i64 x0, .int .i64 x1, .int .i64 x2, .int .i64 x3, .int .i64 x4, .int .i64 x5, .string (strOfNums s)] 93)
        generalize w1.alloc (.cells #[.int .i64 x0, .int .i64 x1, .int .i64 x2, .int .i64 x3, .int .i64 x4, .int .i64 x5, .string (strOfNums s)] 93) = w2 at *
        cases hy : PEnt.may ⟨x0, x1, x2, x3, x4, x5, strOfNums s⟩
        · have HR := Lib.hid (HT.out.trans (if_neg (by rw [hy]; simp)))
          refine (May_c w2 ⟨x0, x1, x2, x3, x4, x5, strOfNums s⟩).mono ?_
          rw [hy]
          rintro e w3 ⟨rfl, b3⟩
          have KE2 := Lib.hid (KE3.past b3)
          have B2 := Lib.hid ((BL1.out.trans (b1.mono BL1.out.size)).trans (b3.mono (Nat.le_trans BL1.out.size b1.size)))
          clear b1 b3 KX KE3 hy BL1 KE1 HT
          go_wp2_with ((with_reducible show wpList _ _ _ ((⟨none, Op.store 93 (.tmp 2) (.tmp 53), _, _, _, _⟩ : Oper) :: _) _ _); go_must (refine wpList_store_row rfl 93 (.tmp 2) (.tmp 53) rfl w.heap.size _ rfl rfl _ _ KE2.out (by kernel_rfl) (by rfl) (by kernel_rfl) ?_))
          have K2 := KE2.out.row #[.int .i64 0, .int .i64 0, .int .i64 0, .int .i64 0, .int .i64 0, .int .i64 0, .string ⟨#[]⟩]
          have B3 := grown_below (grown_row w3 w.heap.size #[.int .i64 0, .int .i64 0, .int .i64 0, .int .i64 0, .int .i64 0, .int .i64 0, .string ⟨#[]⟩]) (Nat.le_refl _) B2.out.size
          refine bodyPost_ret (v := dtup none) (results_row_tmp2 rfl _ _ w.heap.size _ _ _ _ rfl rfl rfl K2 Tryz.underlying93 rfl (by kernel_rfl)) rfl ⟨by rw [HR.out], B2.out.trans B3⟩
        · have HR := Lib.hid (HT.out.trans (if_pos hy))
          refine (May_c w2 ⟨x0, x1, x2, x3, x4, x5, strOfNums s⟩).mono ?_
          rw [hy]
          rintro e w3 ⟨rfl, b3⟩
          have KE2 := Lib.hid (KE3.past b3)
          have B2 := Lib.hid ((BL1.out.trans (b1.mono BL1.out.size)).trans (b3.mono (Nat.le_trans BL1.out.size b1.size)))
          obtain ⟨d0, d1, d2, d3, d4, d5, d6⟩ := (KX.past b3).ent
          clear b1 b3 KX KE3 hy BL1 KE1 HT
          go_wp2_with ((with_reducible show wpList _ _ _ ((⟨none, Op.store 93 (.tmp 2) (.tmp 54), _, _, _, _⟩ : Oper) :: _) _ _); go_must (refine wpList_store_row rfl 93 (.tmp 2) (.tmp 54) rfl w.heap.size _ rfl rfl _ _ KE2.out (by kernel_rfl) (by rfl) (by kernel_rfl) ?_))
          have K2 := KE2.out.row #[.int .i64 x0, .int .i64 x1, .int .i64 x2, .int .i64 x3, .int .i64 x4, .int .i64 x5, .string (strOfNums s)]
          have B3 := grown_below (grown_row w3 w.heap.size #[.int .i64 x0, .int .i64 x1, .int .i64 x2, .int .i64 x3, .int .i64 x4, .int .i64 x5, .string (strOfNums s)]) (Nat.le_refl _) B2.out.size
          have HP := Lib.hid (show (p : Int) + (k : Int) = ((p + k : Nat) : Int) by omega)
          refine bodyPost_ret (v := dtup (some (⟨x0, x1, x2, x3, x4, x5, strOfNums s⟩, p + k))) (results_row_tmp2 rfl _ _ w.heap.size _ _ _ _ rfl (by rw [← HP.out]; rfl) rfl K2 Tryz.underlying93 rfl (by kernel_rfl)) rfl ⟨by rw [HR.out], B2.out.trans B3⟩
      · have HF := Lib.hid (show PEnt.rdE l = none by
          rw [HD.out]; unfold PEnt.rdT; rw [hg, if_neg h0])
        have e0 : (er == 0) = false := by simpa using h0
        have KE2 := KE
        clear hg h0
        go_wp2_with ((with_reducible show wpList _ _ _ ((⟨none, Op.store 93 (.tmp 2) (.tmp 46), _, _, _, _⟩ : Oper) :: _) _ _); go_must (refine wpList_store_row rfl 93 (.tmp 2) (.tmp 46) rfl w.heap.size _ rfl rfl _ _ KE2.out (by kernel_rfl) (by rfl) (by kernel_rfl) ?_))
        have K2 := KE.out.row #[.int .i64 0, .int .i64 0, .int .i64 0, .int .i64 0, .int .i64 0, .int .i64 0, .string ⟨#[]⟩]
        have B2 := grown_below (grown_row wr w.heap.size #[.int .i64 0, .int .i64 0, .int .i64 0, .int .i64 0, .int .i64 0, .int .i64 0, .string ⟨#[]⟩]) (Nat.le_refl _) BL.out.size
        refine bodyPost_ret (v := dtup none) (results_row_tmp2 rfl _ _ w.heap.size _ _ _ _ rfl rfl rfl K2 Tryz.underlying93 rfl (by kernel_rfl)) rfl ⟨by rw [HF.out], BL.out.trans B2⟩
end Go.Proofs.YtacipjdaiglnjaaGreatDoor

/- Contract of getNumbers. -/
namespace Go.Proofs.YtacipjdaiglnjaaGreatDoor
open Go.RowKit

/-- Numbers, how many bytes, were they all there, as Go hands them back. -/
def gtup : Option (List Int × Nat) → Value
  | some (x, p) => .tuple #[nv13 x, .int .i64 p, .bool true]
  | none => .tuple #[nv13 (List.replicate 13 0), .int .i64 0, .bool false]

/-- The numbers that were read, then zeros. -/
def row13 (xs : List Int) : List Value := (xs ++ List.replicate (13 - xs.length) 0).map (Value.int .i64)
theorem row13_set (xs : List Int) (x : Int) (h : xs.length < 13) : (row13 xs).set xs.length (.int .i64 x) = row13 (xs ++ [x]) := by
  unfold row13
  rw [← List.map_set, List.set_append_right _ _ (by omega), Nat.sub_self]
  obtain ⟨k, hk⟩ : ∃ k, 13 - xs.length = k + 1 := ⟨12 - xs.length, by omega⟩
  have hk2 : 13 - (xs ++ [x]).length = k := by simp; omega
  rw [hk, hk2, List.replicate_succ, List.set_cons_zero]
  simp
theorem row13_at (xs : List Int) (h : xs.length < 13) : (row13 xs)[xs.length]? = some (.int .i64 0) := by
  unfold row13
  rw [List.getElem?_map, List.getElem?_append_right (by omega), Nat.sub_self, List.getElem?_replicate, if_pos (by omega)]; rfl

/-- The loop's invariant: xs were read of the first p bytes. -/
def N13 (l : List Int) (xs : List Int) (p : Nat) : Prop := PEnt.rdN 13 l = (PEnt.rdN (13 - xs.length) (l.drop p)).map fun q => (xs ++ q.1, p + q.2)
theorem N13.start (l : List Int) : N13 l [] 0 := by
  unfold N13
  simp
theorem N13.none {l xs : List Int} {p : Nat} (h : N13 l xs p) (hx : xs.length < 13) (he : (PNum.getB 0 0 (l.drop p)).2.2 ≠ 0) : PEnt.rdN 13 l = none := by
  obtain ⟨k, hk⟩ : ∃ k, 13 - xs.length = k + 1 := ⟨12 - xs.length, by omega⟩
  unfold N13 at h
  rw [hk] at h
  generalize PEnt.rdN 13 l = Q at *
  simp only [PEnt.rdN] at h
  rw [if_neg he] at h
  rw [h]; rfl
theorem N13.next {l xs : List Int} {p : Nat} {x : Int} {k : Nat} (h : N13 l xs p) (hx : xs.length < 13) (he : PNum.getB 0 0 (l.drop p) = (x, (k : Int), 0)) : N13 l (xs ++ [x]) (p + k) := by
  obtain ⟨j, hj⟩ : ∃ j, 13 - xs.length = j + 1 := ⟨12 - xs.length, by omega⟩
  have hj2 : 13 - (xs ++ [x]).length = j := by simp; omega
  unfold N13 at h ⊢
  rw [hj] at h
  rw [hj2]
  generalize PEnt.rdN 13 l = Q at *
  simp only [PEnt.rdN] at h
  rw [he, if_pos rfl] at h
  simp only [Int.toNat_natCast, List.drop_drop] at h
  rw [h]
  cases PEnt.rdN j (l.drop (p + k)) with
  | none => rfl
  | some q => simp [Nat.add_assoc]
theorem N13.done {l xs : List Int} {p : Nat} (h : N13 l xs p) (hx : xs.length = 13) : PEnt.rdN 13 l = some (xs, p) := by
  unfold N13 at h
  rw [hx] at h
  generalize PEnt.rdN 13 l = Q at *
  simp only [Nat.sub_self, PEnt.rdN] at h
  rw [h]; simp
theorem list13 {xs : List Int} (h : xs.length = 13) : ∃ x0 x1 x2 x3 x4 x5 x6 x7 x8 x9 x10 x11 x12, xs = [x0, x1, x2, x3, x4, x5, x6, x7, x8, x9, x10, x11, x12] := by
  match xs, h with
  | [x0, x1, x2, x3, x4, x5, x6, x7, x8, x9, x10, x11, x12], _ => exact ⟨x0, x1, x2, x3, x4, x5, x6, x7, x8, x9, x10, x11, x12, rfl⟩

set_option maxHeartbeats 4000000 in
set_option maxRecDepth 100000 in
theorem getNumbers_c (w : World) (B : Nat) (A : Option Addr) (c n : Nat) (l : List Int) (h : Rd w B A c 1 n (bs l)) (hb : isB l) (hn : n ≤ 1000000) :
    Calls Tryz.prog 138 #[.slice A n c] w fun x w' => x = .returned (gtup (PEnt.rdN 13 l)) ∧ Below w.heap.size w w' := by
  have R0 := Lib.hid h.tight
  have HLn := Lib.hid h.blen
  have HB := Lib.hid hb
  clear h hb
  go_enter Tryz.func138, Tryz.ntmps138
  go_wp2_with fail
  have bel0 := ((Below.refl w.heap.size w).alloc (Nat.le_refl _) (.cells #[.int .i64 0, .int .i64 0, .int .i64 0, .int .i64 0, .int .i64 0, .int .i64 0, .int .i64 0, .int .i64 0, .int .i64 0, .int .i64 0, .int .i64 0, .int .i64 0, .int .i64 0] 202)).alloc (by simp) (.cells #[.int .i64 0, .int .i64 0, .int .i64 0, .int .i64 0, .int .i64 0, .int .i64 0, .int .i64 0, .int .i64 0, .int .i64 0, .int .i64 0, .int .i64 0, .int .i64 0, .int .i64 0] 202)
  have K0 := (Blk.new w #[.int .i64 0, .int .i64 0, .int .i64 0, .int .i64 0, .int .i64 0, .int .i64 0, .int .i64 0, .int .i64 0, .int .i64 0, .int .i64 0, .int .i64 0, .int .i64 0, .int .i64 0] 202).alloc (.cells #[.int .i64 0, .int .i64 0, .int .i64 0, .int .i64 0, .int .i64 0, .int .i64 0, .int .i64 0, .int .i64 0, .int .i64 0, .int .i64 0, .int .i64 0, .int .i64 0, .int .i64 0] 202)
  have N0 := Blk.new (w.alloc (.cells #[.int .i64 0, .int .i64 0, .int .i64 0, .int .i64 0, .int .i64 0, .int .i64 0, .int .i64 0, .int .i64 0, .int .i64 0, .int .i64 0, .int .i64 0, .int .i64 0, .int .i64 0] 202)) #[.int .i64 0, .int .i64 0, .int .i64 0, .int .i64 0, .int .i64 0, .int .i64 0, .int .i64 0, .int .i64 0, .int .i64 0, .int .i64 0, .int .i64 0, .int .i64 0, .int .i64 0] 202
  rw [show (w.alloc (.cells #[.int .i64 0, .int .i64 0, .int .i64 0, .int .i64 0, .int .i64 0, .int .i64 0, .int .i64 0, .int .i64 0, .int .i64 0, .int .i64 0, .int .i64 0, .int .i64 0, .int .i64 0] 202)).heap.size = w.heap.size + 1 by simp] at N0
  have H0 : Hid (Below w.heap.size w _) := Lib.hid bel0
  have HK0 : Hid (Blk _ w.heap.size 202 (row13 [])) := Lib.hid K0
  have HN0 : Hid (Blk _ (w.heap.size + 1) 202 (row13 [])) := Lib.hid N0
  clear bel0 K0 N0
  go_loopw [6, 7, 8, 9, 10, 11] (fun s6 _ _ _ _ s11 wr => ∃ (p : Nat) (xs : List Int), xs.length ≤ 13 ∧ p ≤ n ∧ s11 = .int .i64 xs.length ∧ s6 = .int .i64 p ∧ Hid (N13 l xs p) ∧
      Hid (Blk wr w.heap.size 202 (row13 [])) ∧ Hid (Blk wr (w.heap.size + 1) 202 (row13 xs)) ∧ Hid (Below w.heap.size w wr))
    (fun _ _ _ _ _ s11 _ => 13 - (intOf s11).toNat)
  case atStart => exact ⟨0, [], by simp, by omega, rfl, rfl, Lib.hid (N13.start l), HK0, HN0, H0⟩
  case round =>
    clear H0 HK0 HN0
    obtain ⟨p, xs, hxl, hpn, rfl, rfl, HI, KE, KN, BL⟩ := hrel
    have RW := Lib.hid (R0.out.below BL.out)
    by_cases hlt : xs.length < 13
    · go_wp2_with (with_reducible show wpList _ _ _ ((⟨some 17, Op.slice 68 _ _ _ _, _, _, _, _⟩ : Oper) :: _) _ _
                   go_must (refine wpList_cut rfl 68 (.tmp 15) _ _ rfl 5 _ 1 1 Tryz.underlying68 byte_info _ A c n (bs l) rfl RW.out p n (.inr rfl) (.inl ⟨rfl, rfl⟩) (by omega) (by omega) ?_))
      intro A1 c1 hr1
      rw [bs_tail HLn.out] at hr1
      go_wp2_with fail
      refine (Get_c wr _ A1 c1 (n - p) (l.drop p) hr1 (HB.out.drop p)).mono ?_
      clear hr1
      obtain ⟨⟨x, k, er⟩, hg⟩ : ∃ r, PNum.getB 0 0 (l.drop p) = r := ⟨_, rfl⟩
      rw [hg]
      simp only [tup3]
      rintro e w1 ⟨rfl, rfl⟩
      by_cases h0 : er = 0
      · subst h0
        obtain ⟨_, g2, g3⟩ := PNum.getB_whole (HB.out.drop p) hg
        rw [List.length_drop, HLn.out] at g3
        obtain ⟨k, rfl⟩ := Int.eq_ofNat_of_zero_le (show 0 ≤ k by omega)
        have HI2 := Lib.hid (HI.out.next hlt hg)
        have HSet := Lib.hid (row13_set xs x hlt)
        clear hg
        have q0 := KN.out.cell (row13_at xs hlt)
        have q1 := KN.out.free xs.length
        have KN2 := Lib.hid (KN.out.set xs.length (.int .i64 x))
        have KE2 := Lib.hid (KE.out.far (grown_set wr (w.heap.size + 1) xs.length (.int .i64 x)) (by omega))
        have B2 := Lib.hid (BL.out.setCell (p := ⟨w.heap.size + 1, xs.length, none⟩) (Nat.le_succ _) (.int .i64 x))
        clear KN KE BL RW HI
        go_wp2_with fail
        go_roundw
        case rel => exact ⟨p + k, xs ++ [x], by simp; omega, by omega, by simp, by go_num, HI2, KE2, Lib.hid (by rw [← HSet.out]; exact KN2.out), B2⟩
        case measure => simp [intOf]; omega
      · have HF := Lib.hid (HI.out.none hlt (by rw [hg]; exact h0))
        have e0 : (er == 0) = false := by simpa using h0
        clear hg h0
        go_wp2_with ((with_reducible show wpList _ _ _ ((⟨none, Op.store 202 (.tmp 2) _, _, _, _, _⟩ : Oper) :: _) _ _); go_must (refine wpList_store_row rfl 202 (.tmp 2) (.tmp 24) rfl w.heap.size _ rfl rfl _ _ KE.out (by kernel_rfl) (by rfl) (by kernel_rfl) ?_))
        have K2 := KE.out.row #[.int .i64 0, .int .i64 0, .int .i64 0, .int .i64 0, .int .i64 0, .int .i64 0, .int .i64 0, .int .i64 0, .int .i64 0, .int .i64 0, .int .i64 0, .int .i64 0, .int .i64 0]
        have B2 := grown_below (grown_row wr w.heap.size #[.int .i64 0, .int .i64 0, .int .i64 0, .int .i64 0, .int .i64 0, .int .i64 0, .int .i64 0, .int .i64 0, .int .i64 0, .int .i64 0, .int .i64 0, .int .i64 0, .int .i64 0]) (Nat.le_refl _) BL.out.size
        refine bodyPost_ret (v := gtup none) (results_row_tmp2 rfl _ _ w.heap.size _ _ _ _ rfl rfl rfl K2 Tryz.underlying202 rfl (by kernel_rfl)) rfl ⟨by rw [HF.out], BL.out.trans B2⟩
    · have hx : xs.length = 13 := by omega
      have HD := Lib.hid (HI.out.done hx)
      obtain ⟨x0, x1, x2, x3, x4, x5, x6, x7, x8, x9, x10, x11, x12, rfl⟩ := list13 hx
      have KN1 : Hid (Blk wr (w.heap.size + 1) 202 [.int .i64 x0, .int .i64 x1, .int .i64 x2, .int .i64 x3, .int .i64 x4, .int .i64 x5, .int .i64 x6, .int .i64 x7, .int .i64 x8, .int .i64 x9, .int .i64 x10, .int .i64 x11, .int .i64 x12]) := Lib.hid KN.out
      have hl : ([x0, x1, x2, x3, x4, x5, x6, x7, x8, x9, x10, x11, x12].length : Int) = 13 := rfl
      rw [hl]
      clear hx hxl hlt HI KN hl
      go_wp2_with (first
        | ((with_reducible show wpList _ _ _ ((⟨some 32, Op.load _ _, _, _, _, _⟩ : Oper) :: _) _ _); go_must (refine wpList_load_row rfl 202 (.tmp 5) rfl (w.heap.size + 1) rfl 202 #[.int .i64 x0, .int .i64 x1, .int .i64 x2, .int .i64 x3, .int .i64 x4, .int .i64 x5, .int .i64 x6, .int .i64 x7, .int .i64 x8, .int .i64 x9, .int .i64 x10, .int .i64 x11, .int .i64 x12] (0, 0) _ KN1.out Tryz.underlying202 rfl (by kernel_rfl) ?_))
        | ((with_reducible show wpList _ _ _ ((⟨none, Op.store 202 (.tmp 2) _, _, _, _, _⟩ : Oper) :: _) _ _); go_must (refine wpList_store_row rfl 202 (.tmp 2) (.tmp 32) rfl w.heap.size _ rfl rfl _ _ KE.out (by kernel_rfl) (by rfl) (by kernel_rfl) ?_)))
      have K2 := KE.out.row #[.int .i64 x0, .int .i64 x1, .int .i64 x2, .int .i64 x3, .int .i64 x4, .int .i64 x5, .int .i64 x6, .int .i64 x7, .int .i64 x8, .int .i64 x9, .int .i64 x10, .int .i64 x11, .int .i64 x12]
      have B2 := grown_below (grown_row wr w.heap.size #[.int .i64 x0, .int .i64 x1, .int .i64 x2, .int .i64 x3, .int .i64 x4, .int .i64 x5, .int .i64 x6, .int .i64 x7, .int .i64 x8, .int .i64 x9, .int .i64 x10, .int .i64 x11, .int .i64 x12]) (Nat.le_refl _) BL.out.size
      refine bodyPost_ret (v := gtup (some ([x0, x1, x2, x3, x4, x5, x6, x7, x8, x9, x10, x11, x12], p))) (results_row_tmp2 rfl _ _ w.heap.size _ _ _ _ rfl rfl rfl K2 Tryz.underlying202 rfl (by kernel_rfl)) rfl ⟨by rw [HD.out], BL.out.trans B2⟩
end Go.Proofs.YtacipjdaiglnjaaGreatDoor

/- Contract of msgOf. -/
namespace Go.Proofs.YtacipjdaiglnjaaGreatDoor
open Go.RowKit

set_option maxHeartbeats 4000000 in
set_option maxRecDepth 100000 in
theorem wOf_c (w : World) (x0 x1 x2 x3 x4 x5 x6 x7 x8 x9 x10 x11 x12 : Int) (l : List Ent) (A : Option Addr) (c : Nat) :
    Calls Tryz.prog 140 #[.agg #[.int .i64 x0, .int .i64 x1, .int .i64 x2, .int .i64 x3, .int .i64 x4, .int .i64 x5, .int .i64 x6, .int .i64 x7, .int .i64 x8, .int .i64 x9, .int .i64 x10, .int .i64 x11, .int .i64 x12], .slice A l.length c] w fun x w' => x = .returned (mv (PMsg.ofN [x0, x1, x2, x3, x4, x5, x6, x7, x8, x9, x10, x11, x12] l) A c) ∧ Below w.heap.size w w' := by
  go_enter Tryz.func140, Tryz.ntmps140
  go_wp2_with fail
  have K := Blk.new (w.alloc (.cells #[.int .i64 x0, .int .i64 x1, .int .i64 x2, .int .i64 x3, .int .i64 x4, .int .i64 x5, .int .i64 x6, .int .i64 x7, .int .i64 x8, .int .i64 x9, .int .i64 x10, .int .i64 x11, .int .i64 x12] 202)) #[.int .i64 x0, .int .i64 x1, .int .i64 x2, .int .i64 x3, .int .i64 x4, .int .i64 x5, .int .i64 x6, .int .i64 x7, .slice A l.length c, .int .i64 x8, .int .i64 x9, .int .i64 x10, .bool (x11 == 1)] 31
  rw [show (w.alloc (.cells #[.int .i64 x0, .int .i64 x1, .int .i64 x2, .int .i64 x3, .int .i64 x4, .int .i64 x5, .int .i64 x6, .int .i64 x7, .int .i64 x8, .int .i64 x9, .int .i64 x10, .int .i64 x11, .int .i64 x12] 202)).heap.size = w.heap.size + 1 by simp] at K
  refine bodyPost_ret (v := mv (PMsg.ofN [x0, x1, x2, x3, x4, x5, x6, x7, x8, x9, x10, x11, x12] l) A c) (results_cell_row rfl _ _ (w.heap.size + 1) _ _ _ _ rfl K Tryz.underlying31 rfl (by kernel_rfl)) rfl ⟨rfl, ((Below.refl _ _).alloc (Nat.le_refl _) _).alloc (by simp) _⟩
end Go.Proofs.YtacipjdaiglnjaaGreatDoor

/- A message loaded, rows of int64s compared, in a region that draws. -/
namespace Go.Proofs.YtacipjdaiglnjaaGreatDoor
open Go.RowKit

section
variable {P : Program} (w : World)
theorem range_eq : ∀ (xs ys : List Int), xs.length = ys.length → ((List.range xs.length).all fun i => xs.getD i 0 == ys.getD i 0) = decide (xs = ys)
  | [], [], _ => rfl
  | [], _ :: _, h => by simp at h
  | _ :: _, [], h => by simp at h
  | x :: xs, y :: ys, h => by
    have h1 := range_eq xs ys (by simpa using h)
    rw [List.length_cons, List.range_succ_eq_map, List.all_cons, List.all_map]
    simp only [List.getD_cons_zero, Function.comp_def, List.getD_cons_succ, h1]
    rw [Bool.eq_iff_iff]; simp
/-- Two arrays of int64s are the same, number by number. -/
theorem run_equalIn_nums (d : Nat) (t e : TypeId) (n : Nat) (ht : P.underlying t = some (.array n e)) (he : P.underlying e = some (.int .i64)) (hs : ∀ w, (sizeOf e).run P w = .ok 1 w) (xs ys : List Int) (hx : xs.length = n) (hy : ys.length = n) :
    (Op.equalIn (d + 2) t (nv13 xs) (nv13 ys)).run P w = .ok (decide (xs = ys)) w := by
  rw [← range_eq xs ys (hx.trans hy.symm), hx, List.range_eq_range', nv13, nv13, Op.equalIn]
  simp only [Sem.run_bind, run_underlying ht, Result.andThen_ok, hs, Std.Legacy.Range.forIn_eq_forIn_range', Std.Legacy.Range.size, Nat.sub_zero, Nat.add_sub_cancel, Nat.div_one]
  have hl : ∀ i ∈ List.range' 0 n 1, i < n := fun i hi => by simpa using (List.mem_range'_1.1 hi).2
  generalize List.range' 0 n 1 = l at hl ⊢
  induction l with
  | nil => simp
  | cons i l ih =>
    have hi : i < n := hl i (by simp)
    have px : (part e (xs.map (Value.int .i64)).toArray (i * 1)).run P w = .ok (.int .i64 (xs.getD i 0)) w := by
      simp [part, isAgg, run_underlying he, List.getD, List.getElem?_eq_getElem (show i < xs.length by omega)]
    have py : (part e (ys.map (Value.int .i64)).toArray (i * 1)).run P w = .ok (.int .i64 (ys.getD i 0)) w := by
      simp [part, isAgg, run_underlying he, List.getD, List.getElem?_eq_getElem (show i < ys.length by omega)]
    simp only [List.forIn_cons, Sem.run_bind, px, py, run_equalIn_int w d e .i64 .i64 _ _ he, Result.andThen_ok, List.all_cons]
    cases hb : (xs.getD i 0 == ys.getD i 0)
    · simp
    · simp only [Bool.not_true, Bool.false_eq_true, if_false, Sem.run_pure, Result.andThen_ok, Bool.true_and]
      exact ih fun j hj => hl j (by simp [hj])
end

theorem run_loadN {w : World} {dst : Option Tmp} {x : Operand} {ty : TypeId} {pos : String} {after : Array Edge} {guard : Option (Nat × Bool)} {ρ : Operand → Value} {g : Nat} {t : TypeId} {y0 y1 y2 y3 y4 y5 y6 y7 y8 y9 y10 y11 y12 : Int}
    (K : Blk w g t [.int .i64 y0, .int .i64 y1, .int .i64 y2, .int .i64 y3, .int .i64 y4, .int .i64 y5, .int .i64 y6, .int .i64 y7, .int .i64 y8, .int .i64 y9, .int .i64 y10, .int .i64 y11, .int .i64 y12]) (hx : ρ x = .pointer (some ⟨g, 0, none⟩)) :
    (execOp ρ { dst, op := .load 202 x, type := ty, pos, after, guard }).run Tryz.prog w = .ok (.value (nv13 [y0, y1, y2, y3, y4, y5, y6, y7, y8, y9, y10, y11, y12])) w := by
  have := run_loadAt_mid (P := Tryz.prog) w g 0 202 [.int .i64 y0, .int .i64 y1, .int .i64 y2, .int .i64 y3, .int .i64 y4, .int .i64 y5, .int .i64 y6, .int .i64 y7, .int .i64 y8, .int .i64 y9, .int .i64 y10, .int .i64 y11, .int .i64 y12] _ K.range Tryz.underlying202 rfl (by kernel_rfl)
  unfold execOp
  simp only [hx, Sem.run_bind, this, Result.andThen_ok, Sem.run_pure]
  rfl

theorem run_numsNe {w : World} {dst : Option Tmp} {x y : Operand} {ty : TypeId} {pos : String} {after : Array Edge} {guard : Option (Nat × Bool)} {ρ : Operand → Value} {xs ys : List Int} {b : Bool} (hx : ρ x = nv13 xs) (hy : ρ y = nv13 ys) (lx : xs.length = 13) (ly : ys.length = 13) (hb : (!decide (xs = ys)) = b) :
    (execOp ρ { dst, op := .binOp .neq 202 x y 202, type := ty, pos, after, guard }).run Tryz.prog w = .ok (.value (.bool b)) w := by
  have h1 := run_equalIn_nums (P := Tryz.prog) w 9998 202 2 13 Tryz.underlying202 Tryz.underlying2 (fun w => by kernel_rfl) xs ys lx ly
  have h0 : Tryz.prog.eqGuardType Tryz.prog.depth 202 = false := by kernel_rfl
  unfold execOp
  simp only [hx, hy]
  unfold nv13 at *
  simp only [Sem.run_bind, run_eqGuard_agg (P := Tryz.prog) w .neq 202 x y _ _ h0, Result.andThen_ok, run_neq_struct, h1, hb, Sem.run_pure]
end Go.Proofs.YtacipjdaiglnjaaGreatDoor

/- Contract of Decode. -/
namespace Go.Proofs.YtacipjdaiglnjaaGreatDoor
open Go.RowKit

def slLen : Value → Nat
  | .slice _ n _ => n
  | _ => 0
def dErr : Option (List Ent) → Int
  | some _ => 0
  | none => 1

/-- The loop's invariant: es were read of the first p bytes. -/
def DI (l : List Int) (es : List Ent) (p : Nat) : Prop := ∃ f, (l.drop p).length ≤ f ∧ PEnt.dec l = (PEnt.rdL f (l.drop p)).map (es ++ ·)
theorem DI.start (l : List Int) : DI l [] 0 := ⟨l.length, by simp, by simp [PEnt.dec]⟩
theorem DI.bad {l : List Int} {es : List Ent} {p : Nat} (h : DI l es p) (hp : 0 < (l.drop p).length) (he : PEnt.rdE (l.drop p) = none) : PEnt.dec l = none := by
  obtain ⟨f, hf, hd⟩ := h
  rw [hd]
  generalize l.drop p = m at *
  match f, m, hp with
  | 0, [], hp => simp at hp
  | 0, c :: r, _ => simp at hf
  | f + 1, [], hp => simp at hp
  | f + 1, c :: r, _ => simp [PEnt.rdL, he]
theorem DI.next {l : List Int} {es : List Ent} {p k : Nat} {e : Ent} (h : DI l es p) (hk : 0 < k) (hl : k ≤ (l.drop p).length) (he : PEnt.rdE (l.drop p) = some (e, k)) : DI l (es ++ [e]) (p + k) := by
  obtain ⟨f, hf, hd⟩ := h
  have e1 : l.drop (p + k) = (l.drop p).drop k := by rw [List.drop_drop]
  match f, hf, hd with
  | 0, hf, _ => omega
  | f + 1, hf, hd =>
    refine ⟨f, by rw [e1, List.length_drop]; omega, ?_⟩
    rw [hd, e1]
    generalize l.drop p = m at *
    match m, hl with
    | [], hl => simp at hl; omega
    | c :: r, _ =>
      simp only [PEnt.rdL, he]
      cases PEnt.rdL f ((c :: r).drop k) <;> simp
theorem DI.done {l : List Int} {es : List Ent} {p : Nat} (h : DI l es p) (hp : l.drop p = []) : PEnt.dec l = some es := by
  obtain ⟨f, _, hd⟩ := h
  rw [hd, hp]
  cases f <;> simp [PEnt.rdL]

set_option maxHeartbeats 4000000 in
set_option maxRecDepth 100000 in
theorem Decode_c (w : World) (B : Nat) (A : Option Addr) (c n : Nat) (l : List Int) (h : Rd w B A c 1 n (bs l)) (hb : isB l) (hn : n ≤ 1000000) :
    Calls Tryz.prog 139 #[.slice A n c] w fun x w' => ∃ A' c', x = .returned (.tuple #[.slice A' ((PEnt.dec l).getD []).length c', .int .i64 (dErr (PEnt.dec l))]) ∧
      w'.ownsRow w.heap.size 93 7 (.slice A' ((PEnt.dec l).getD []).length c') ((PEnt.dec l).getD []).length (els ((PEnt.dec l).getD [])) ∧ Below w.heap.size w w' := by
  have R0 := Lib.hid h.tight
  have HLn := Lib.hid h.blen
  have HB := Lib.hid hb
  clear h hb
  go_enter Tryz.func139, Tryz.ntmps139
  go_wp2_with fail
  go_loopw [0, 4, 5, 6, 7] (fun s0 s4 _ _ _ wr => ∃ (p m cb c' : Nat) (Ab A' : Option Addr) (es : List Ent), p ≤ n ∧ m ≤ p ∧ s0 = .slice Ab (n - p) cb ∧ s4 = .slice A' m c' ∧ Hid (Rd wr w.heap.size Ab cb 1 (n - p) (bs (l.drop p))) ∧
      Hid (wr.ownsRow w.heap.size 93 7 (.slice A' m c') m (els es)) ∧ Hid (DI l es p) ∧ Hid (Below w.heap.size w wr))
    (fun s0 _ _ _ _ _ => slLen s0)
  case atStart => exact ⟨0, 0, c, 0, A, none, [], by omega, by omega, rfl, rfl, R0, Lib.hid (World.ownsRow_nil _ _ _ _), Lib.hid (DI.start l), Lib.hid (Below.refl _ _)⟩
  case round =>
    clear R0
    obtain ⟨p, m, cb, c1, Ab, A1, es, hp, hm, rfl, rfl, R, O, HI, BL⟩ := hrel
    have HLd := Lib.hid (show (l.drop p).length = n - p by rw [List.length_drop, HLn.out])
    by_cases hlt : 0 < n - p
    · go_wp2_with fail
      refine (decodeOne_c wr _ Ab cb (n - p) (l.drop p) R.out (HB.out.drop p) (by omega)).mono ?_
      cases hr : PEnt.rdE (l.drop p) with
      | none =>
        have HD := Lib.hid (HI.out.bad (by rw [HLd.out]; exact hlt) hr)
        clear hr
        simp only [dtup, ev, zeroE]
        rintro x w1 ⟨rfl, b1⟩
        have B1 := Lib.hid (BL.out.trans (b1.mono BL.out.size))
        have B2 := Lib.hid (B1.out.alloc B1.out.size (.cells #[.int .i64 0, .int .i64 0, .int .i64 0, .int .i64 0, .int .i64 0, .int .i64 0, .string ⟨#[]⟩] 93))
        clear b1 BL O R
        go_wp2_with fail
        go_ret2
        refine ⟨none, 0, ?_, ?_, B2.out⟩
        · rw [HD.out]; rfl
        · rw [HD.out]; exact World.ownsRow_nil _ _ _ _
      | some q =>
        obtain ⟨e, k⟩ := q
        obtain ⟨he1, he2, he3, -⟩ := PEnt.rdE_inv (HB.out.drop p) hr
        rw [HLd.out] at he3
        have HI2 := Lib.hid (HI.out.next he2 (by rw [HLd.out]; exact he3) hr)
        clear hr he1
        simp only [dtup, ev]
        rintro x w1 ⟨rfl, b1⟩
        have B1 := Lib.hid (BL.out.trans (b1.mono BL.out.size))
        have O1 := Lib.hid (own_below O.out b1)
        have R1 := Lib.hid (R.out.past b1)
        clear b1 BL O R HI
        have O2 := own_below O1.out ((Below.refl _ _).alloc (Nat.le_refl _) (.cells #[.int .i64 e.fr, .int .i64 e.boot, .int .i64 e.seq, .int .i64 e.ord, .int .i64 e.lev, .int .i64 e.stamp, .string e.data] 93))
        have B2 := Lib.hid (B1.out.alloc B1.out.size (.cells #[.int .i64 e.fr, .int .i64 e.boot, .int .i64 e.seq, .int .i64 e.ord, .int .i64 e.lev, .int .i64 e.stamp, .string e.data] 93))
        have R2 := Lib.hid (R1.out.alloc (.cells #[.int .i64 e.fr, .int .i64 e.boot, .int .i64 e.seq, .int .i64 e.ord, .int .i64 e.lev, .int .i64 e.stamp, .string e.data] 93))
        have HO2 := Lib.hid O2
        clear O2 B1 R1 O1
        go_wp2_with (at_builtin; go_must (refine wpList_pushes rfl (.tmp 19) (.tmp 21) _ rfl w.heap.size 93 (ev zeroE) 7 64 1 Tryz.underlying29 ent_info rfl (by omega) rfl (by unfold maxLen; omega) A1 c1 m (els es) rfl HO2.out (by show Value.slice (some ⟨w1.heap.size + 1, 0, none⟩) 1 1 = _; simp) ?h1 ?h2 ?h3 ?h4 ?_))
        case h1 => exact ⟨rfl, rfl, rfl, rfl, rfl, rfl, rfl⟩
        case h2 => unfold maxLen; omega
        case h3 => omega
        case h4 => exact B2.out.size
        intro A2 c2 w2 hown2 hg2 hb2
        have B3 := Lib.hid (B2.out.trans hb2)
        have R3 := Lib.hid (R2.out.below hb2)
        have O3 := Lib.hid (show w2.ownsRow w.heap.size 93 7 (.slice A2 (m + 1) c2) (m + 1) (els (es ++ [e])) by rw [els_append]; exact hown2)
        clear hown2 hg2 hb2 B2 R2 HO2
        go_wp2_with (with_reducible show wpList _ _ _ ((⟨some 25, Op.slice 68 _ _ _ _, _, _, _, _⟩ : Oper) :: _) _ _
                     go_must (refine wpList_cut rfl 68 (.tmp 23) _ _ rfl 5 _ 1 1 Tryz.underlying68 byte_info _ Ab cb (n - p) (bs (l.drop p)) rfl R3.out k (n - p) (.inr rfl) (.inl ⟨rfl, rfl⟩) he3 (Nat.le_refl _) ?_))
        intro A4 c4 hr4
        rw [bs_tail HLd.out, List.drop_drop] at hr4
        have R4 := Lib.hid hr4
        clear hr4 R3
        go_wp2_with fail
        go_roundw
        case rel => exact ⟨p + k, m + 1, c4, c2, A4, A2, es ++ [e], by omega, by omega, by rw [Nat.sub_sub], rfl, Lib.hid (by rw [← Nat.sub_sub]; exact R4.out), O3, HI2, B3⟩
        case measure => simp [slLen]; omega
    · have hp0 : l.drop p = [] := List.eq_nil_of_length_eq_zero (by rw [HLd.out]; omega)
      have HD := Lib.hid (HI.out.done hp0)
      have hl := O.out.1
      rw [els_length] at hl
      have HM := Lib.hid (show es.length = m by omega)
      clear hl hp0
      go_wp2_with fail
      go_ret2
      refine ⟨A1, c1, ?_, ?_, BL.out⟩
      · rw [HD.out]; show _ = Ending.returned (.tuple #[.slice A1 es.length c1, .int .i64 0]); rw [HM.out]; rfl
      · rw [HD.out]; show wr.ownsRow _ _ _ (.slice A1 es.length c1) es.length (els es); rw [HM.out]; exact O.out
end Go.Proofs.YtacipjdaiglnjaaGreatDoor

/- Contract of crc.sumAt. -/
namespace Go.Proofs.YtacipjdaiglnjaaGreatDoor
open Go.RowKit

set_option maxRecDepth 100000 in
theorem sumAt_c (w : World) (b o c : Nat) (x0 x1 x2 x3 : Nat) (h0 : w.cell? ⟨b, o, none⟩ = some (.int .u8 x0)) (h1 : w.cell? ⟨b, o + 1, none⟩ = some (.int .u8 x1)) (h2 : w.cell? ⟨b, o + 2, none⟩ = some (.int .u8 x2)) (h3 : w.cell? ⟨b, o + 3, none⟩ = some (.int .u8 x3))
    (l0 : x0 < 256) (l1 : x1 < 256) (l2 : x2 < 256) (l3 : x3 < 256) :
    Calls Tryz.prog 185 #[.slice (some ⟨b, o, none⟩) 4 c] w fun e w' => e = .returned (.int .u32 (PCrc.told [x0, x1, x2, x3] : Nat)) ∧ Below w.heap.size w w' := by
  have fin : Ending.returned (.int .u32 (bits BinOp.or IntKind.u32 (bits BinOp.or IntKind.u32 (bits BinOp.or IntKind.u32 (IntKind.u32.wrap (IntKind.u32.wrap (x0 : Int) * 16777216)) (IntKind.u32.wrap (IntKind.u32.wrap (x1 : Int) * 65536))) (IntKind.u32.wrap (IntKind.u32.wrap (x2 : Int) * 256))) (IntKind.u32.wrap (x3 : Int)))) = Ending.returned (.int .u32 (PCrc.told [x0, x1, x2, x3] : Nat)) := by
    have e0 : IntKind.u32.wrap (IntKind.u32.wrap (x0 : Int) * 16777216) = ((2 ^ 24 * x0 : Nat) : Int) := by rw [IntKind.wrap_u32, IntKind.wrap_u32]; omega
    have e1 : IntKind.u32.wrap (IntKind.u32.wrap (x1 : Int) * 65536) = ((2 ^ 16 * x1 : Nat) : Int) := by rw [IntKind.wrap_u32, IntKind.wrap_u32]; omega
    have e2 : IntKind.u32.wrap (IntKind.u32.wrap (x2 : Int) * 256) = ((2 ^ 8 * x2 : Nat) : Int) := by rw [IntKind.wrap_u32, IntKind.wrap_u32]; omega
    have e3 : IntKind.u32.wrap (x3 : Int) = (x3 : Int) := by rw [IntKind.wrap_u32]; omega
    have o1 : 2 ^ 24 * x0 ||| 2 ^ 16 * x1 = 2 ^ 16 * (2 ^ 8 * x0 + x1) := by
      rw [← Nat.two_pow_add_eq_or_of_lt (by omega : 2 ^ 16 * x1 < 2 ^ 24)]; omega
    have o2 : 2 ^ 16 * (2 ^ 8 * x0 + x1) ||| 2 ^ 8 * x2 = 2 ^ 8 * (2 ^ 8 * (2 ^ 8 * x0 + x1) + x2) := by
      rw [← Nat.two_pow_add_eq_or_of_lt (by omega : 2 ^ 8 * x2 < 2 ^ 16)]; omega
    have o3 : 2 ^ 8 * (2 ^ 8 * (2 ^ 8 * x0 + x1) + x2) ||| x3 = 2 ^ 8 * (2 ^ 8 * (2 ^ 8 * x0 + x1) + x2) + x3 := by
      rw [← Nat.two_pow_add_eq_or_of_lt (by omega : x3 < 2 ^ 8)]
    rw [e0, e1, e2, e3, u32_or_nat _ _ (by omega) (by omega), o1, u32_or_nat _ _ (by omega) (by omega), o2, u32_or_nat _ _ (by omega) (by omega), o3]
    congr 3
    simp only [PCrc.told, Int.toNat_natCast]; omega
  have FIN := Lib.hid fin; clear fin
  have hb0 : b < w.heap.size := World.block_lt_of_cell? w _ h0
  go_enter Tryz.func185, Tryz.ntmps185
  go_wp2
-- REGION curfew/crc.sumAt 1 sumat 2
  refine Hb.begin ?_
  refine Hb.take (v := .slice (some ⟨b, o, none⟩) 4 c) 0 3 rfl ?_ (fun _ _ => rfl)
  refine Hb.take 1 4 rfl ?_ (fun w' hw' => by go_simp; first | done | rfl)
  refine Hb.take 2 5 rfl ?_ (fun w' hw' => by have hc := (hw'.cell (p := ⟨b, o, none⟩) hb0).trans h0; go_simp; rfl)
  refine Hb.take 3 6 rfl ?_ (fun w' hw' => by go_simp; first | done | rfl)
  refine Hb.take 4 7 rfl ?_ (fun w' hw' => by go_simp; first | done | rfl)
  refine Hb.take (v := .slice (some ⟨b, o, none⟩) 4 c) 5 8 rfl ?_ (fun _ _ => rfl)
  refine Hb.take 6 9 rfl ?_ (fun w' hw' => by go_simp; first | done | rfl)
  refine Hb.take 7 10 rfl ?_ (fun w' hw' => by have hc := (hw'.cell (p := ⟨b, o + 1, none⟩) hb0).trans h1; go_simp; rfl)
  refine Hb.take 8 11 rfl ?_ (fun w' hw' => by go_simp; first | done | rfl)
  refine Hb.take 9 12 rfl ?_ (fun w' hw' => by go_simp; first | done | rfl)
  refine Hb.take 10 13 rfl ?_ (fun w' hw' => by go_simp; first | done | rfl)
  refine Hb.take (v := .slice (some ⟨b, o, none⟩) 4 c) 11 14 rfl ?_ (fun _ _ => rfl)
  refine Hb.take 12 15 rfl ?_ (fun w' hw' => by go_simp; first | done | rfl)
  refine Hb.take 13 16 rfl ?_ (fun w' hw' => by have hc := (hw'.cell (p := ⟨b, o + 2, none⟩) hb0).trans h2; go_simp; rfl)
  refine Hb.take 14 17 rfl ?_ (fun w' hw' => by go_simp; first | done | rfl)
  refine Hb.take 15 18 rfl ?_ (fun w' hw' => by go_simp; first | done | rfl)
  refine Hb.take 16 19 rfl ?_ (fun w' hw' => by go_simp; first | done | rfl)
  refine Hb.take (v := .slice (some ⟨b, o, none⟩) 4 c) 17 20 rfl ?_ (fun _ _ => rfl)
  refine Hb.take 18 21 rfl ?_ (fun w' hw' => by go_simp; first | done | rfl)
  refine Hb.take 19 22 rfl ?_ (fun w' hw' => by have hc := (hw'.cell (p := ⟨b, o + 3, none⟩) hb0).trans h3; go_simp; rfl)
  refine Hb.take 20 23 rfl ?_ (fun w' hw' => by go_simp; first | done | rfl)
  refine Hb.take 21 24 rfl ?_ (fun w' hw' => by go_simp; first | done | rfl)
  refine Hb.take 22 2 rfl ?_ (fun w' hw' => by go_simp; first | done | rfl)
  refine Hb.done ?_
-- END
  go_wp2
  go_ret
  exact ⟨FIN.out, (Below.refl _ _).drew⟩

end Go.Proofs.YtacipjdaiglnjaaGreatDoor

/- Contract of crc.Open. -/
namespace Go.Proofs.YtacipjdaiglnjaaGreatDoor
open Go.RowKit

set_option maxRecDepth 100000 in
theorem Open_c (w : World) (B : Nat) (A : Option Addr) (c n : Nat) (l : List Int) (h : Rd w B A c 1 n (bs l)) (hb : isB l) (ht : Tab w) (hn : n ≤ 140000000000000) :
    Calls Tryz.prog 137 #[.slice A n c] w (OpenPost w (openP l)) := by
  obtain ⟨i0, hi, hz0, hz1, hz2⟩ := info_parts byte_info
  have hlen := h.blen
  by_cases h4 : n < 4
  · have hp : openP l = ([], false) := by unfold openP; rw [if_neg (by omega)]
    have HP := Lib.hid hp; clear hp hlen
    go_enter Tryz.func137, Tryz.ntmps137
    go_wp2
-- REGION curfew/crc.Open 2 open2few 4
    refine Hb.begin ?_
    refine Hb.take (v := .int .i64 ((n : Int) - 4)) 0 8 rfl ?_ (fun _ _ => rfl)
    refine Hb.take (v := .bool true) 1 9 rfl ?_ (fun w' hw' => by go_simp; first | done | omega | (simp; omega))
    refine Hb.take (v := .bool true) 2 10 rfl ?_ (fun _ _ => rfl)
    refine Hb.pass 3 11 rfl ?_
    refine Hb.pass 4 12 rfl ?_
    refine Hb.pass 5 13 rfl ?_
    refine Hb.pass 6 14 rfl ?_
    refine Hb.pass 7 15 rfl ?_
    refine Hb.pass 8 16 rfl ?_
    refine Hb.pass 9 17 rfl ?_
    refine Hb.pass 10 18 rfl ?_
    refine Hb.pass 11 19 rfl ?_
    refine Hb.take (v := Value.bool true) 12 20 rfl ?_ (fun _ _ => rfl)
    refine Hb.done ?_
-- END
    go_wp2
    go_ret2
    exact openPost_no HP.out ((Below.refl _ _).drew)
  · obtain ⟨A1, c1, C1, h1⟩ := cut_any (P := Tryz.prog) 68 5 Tryz.underlying68 byte_info h none (some (.int .i64 ((n : Int) - 4))) 0 (n - 4) 0 ((n : Int) - 4) (.inl ⟨rfl, rfl⟩) (.inr ⟨rfl, by omega⟩) (by omega) (by omega)
    obtain ⟨A2, c2, C2, h2⟩ := cut_any (P := Tryz.prog) 68 5 Tryz.underlying68 byte_info h (some (.int .i64 ((n : Int) - 4))) none (n - 4) n ((n : Int) - 4) 0 (.inr ⟨rfl, by omega⟩) (.inl ⟨rfl, rfl⟩) (by omega) (by omega)
    simp only [Nat.sub_zero, List.drop_zero, Nat.mul_one, ← bs_take] at C1 h1
    have e4 : n - (n - 4) = 4 := by omega
    rw [e4] at C2 h2
    clear e4
    rw [Nat.mul_one, Nat.mul_one, ← bs_drop, ← bs_take, List.take_of_length_le (by rw [List.length_drop]; omega)] at h2
    obtain ⟨x0, x1, x2, x3, hx⟩ : ∃ x0 x1 x2 x3 : Nat, l.drop (n - 4) = [(x0 : Int), (x1 : Int), (x2 : Int), (x3 : Int)] := by
      have hl : (l.drop (n - 4)).length = 4 := by rw [List.length_drop]; omega
      have hB := hb.drop (n - 4)
      match hm : l.drop (n - 4), hl with
      | [y0, y1, y2, y3], _ =>
        rw [hm] at hB
        have g0 := hB y0 (by simp); have g1 := hB y1 (by simp); have g2 := hB y2 (by simp); have g3 := hB y3 (by simp)
        exact ⟨y0.toNat, y1.toNat, y2.toNat, y3.toNat, by simp; omega⟩
    have hB := hb.drop (n - 4)
    rw [hx] at h2 hB
    have l0 := (hB x0 (by simp)).2; have l1 := (hB x1 (by simp)).2; have l2 := (hB x2 (by simp)).2; have l3 := (hB x3 (by simp)).2
    obtain ⟨b, o, rfl, hbB, hc2⟩ := h2.2.2.2.2 (by omega)
    have h20 : w.cell? ⟨b, o, none⟩ = some (.int .u8 x0) := hc2 0 _ rfl
    have h21 : w.cell? ⟨b, o + 1, none⟩ = some (.int .u8 x1) := hc2 1 _ rfl
    have h22 : w.cell? ⟨b, o + 2, none⟩ = some (.int .u8 x2) := hc2 2 _ rfl
    have h23 : w.cell? ⟨b, o + 3, none⟩ = some (.int .u8 x3) := hc2 3 _ rfl
    clear hc2 h2 hB
    have hu : openP l = if PCrc.sum (l.take (n - 4)) = PCrc.told [(x0 : Int), (x1 : Int), (x2 : Int), (x3 : Int)] then (l.take (n - 4), true) else ([], false) := by
      unfold openP; rw [hlen, hx]
      simp only [show 4 ≤ n from by omega, true_and]
    have htl : (l.take (n - 4)).length = n - 4 := by rw [List.length_take]; omega
    have HTL := Lib.hid htl; clear htl
    have HLEN := Lib.hid hlen; clear hlen hx
    have l0' : x0 < 256 := by omega
    have l1' : x1 < 256 := by omega
    have l2' : x2 < 256 := by omega
    have l3' : x3 < 256 := by omega
    clear l0 l1 l2 l3
    generalize hsu : PCrc.sum (l.take (n - 4)) = u at hu
    generalize htv : PCrc.told [(x0 : Int), (x1 : Int), (x2 : Int), (x3 : Int)] = v at hu
    have HSU := Lib.hid hsu; clear hsu
    have HTV := Lib.hid htv; clear htv
    by_cases hq : u = v
    · subst hq
      rw [if_pos rfl] at hu
      have HU := Lib.hid hu; clear hu
      go_enter Tryz.func137, Tryz.ntmps137
      go_wp2
-- REGION curfew/crc.Open 2 open2eq 6
      refine Hb.begin ?_
      refine Hb.take (v := .int .i64 ((n : Int) - 4)) 0 8 rfl ?_ (fun _ _ => rfl)
      refine Hb.take (v := .bool false) 1 9 rfl ?_ (fun w' hw' => by go_simp; first | done | omega | (simp; omega))
      refine Hb.take (v := .bool false) 2 10 rfl ?_ (fun _ _ => rfl)
      refine Hb.take (v := .slice A n c) 3 11 rfl ?_ (fun _ _ => rfl)
      refine Hb.take (v := .int .i64 ((n : Int) - 4)) 4 12 rfl ?_ (fun _ _ => rfl)
      refine Hb.take (v := .slice A1 (n - 4) c1) 5 13 rfl ?_ (fun w' hw' => by exact run_sliceOp (C1 w'))
      refine Hb.take (v := .slice A n c) 7 15 rfl ?_ (fun _ _ => rfl)
      refine Hb.take (v := .int .i64 ((n : Int) - 4)) 8 16 rfl ?_ (fun _ _ => rfl)
      refine Hb.take (v := .slice (some ⟨b, o, none⟩) 4 c2) 9 17 rfl ?_ (fun w' hw' => by exact run_sliceOp (C2 w'))
      refine Hb.call (f := 184) (args := #[.slice A1 (n - 4) c1]) 6 14 rfl ?_ (run_callf Tryz.func184 (by kernel_rfl) (by kernel_rfl) (by simp only [List.map_toArray, List.map_cons, List.map_nil]; rfl))
      refine (Sum_c w.drew _ A1 c1 (n - 4) (l.take (n - 4)) h1 (hb.take _) ht).mono ?_
      rw [HSU.out]
      rintro e w1 ⟨rfl, rfl⟩
      refine Hb.back (Below.refl _ _) (Nat.le_refl _) ?_
      refine Hb.call (f := 185) (args := #[.slice (some ⟨b, o, none⟩) 4 c2]) 10 18 rfl ?_ (run_callf Tryz.func185 (by kernel_rfl) (by kernel_rfl) (by simp only [List.map_toArray, List.map_cons, List.map_nil]; rfl))
      refine (sumAt_c w.drew b o c2 x0 x1 x2 x3 h20 h21 h22 h23 l0' l1' l2' l3').mono ?_
      rw [HTV.out]
      rintro e w1 ⟨rfl, hb1⟩
      refine Hb.back hb1 (Nat.le_refl _) ?_
      refine Hb.take (v := .bool false) 11 19 rfl ?_ (fun w' hw' => by go_simp; first | done | omega | (simp; omega))
      refine Hb.take (v := .bool false) 12 20 rfl ?_ (fun _ _ => rfl)
      refine Hb.done ?_
-- END
      go_wp2
      have h1' := (h1.drew.past hb1).drew
      have hsz1 : w.heap.size ≤ w1.drew.heap.size := hb1.size
-- REGION curfew/crc.Open 4 open4 6
      refine Hb.begin ?_
      refine Hb.take (v := .int .i64 ((n : Int) - 4)) 0 21 rfl ?_ (fun _ _ => rfl)
      refine Hb.take (v := .slice A n c) 2 23 rfl ?_ (fun _ _ => rfl)
      refine Hb.take (v := .int .i64 ((n : Int) - 4)) 3 24 rfl ?_ (fun _ _ => rfl)
      refine Hb.take (v := .slice A1 (n - 4) c1) 4 25 rfl ?_ (fun w' hw' => by exact run_sliceOp (C1 w'))
      refine Hb.only 1 (some 22) rfl ?_
      refine wpList_make_own _ rfl _ _ 68 rfl w1.drew.heap.size 5 i0 (.int .u8 0) 1 Tryz.underlying68 hi hz0 hz1 _ _ _ (n - 4) rfl rfl ?b1 ?b2 ?b3 (Nat.le_refl _) ?_
      case b1 => omega
      case b2 => rw [hz2]; omega
      case b3 => unfold maxLen; omega
      intro w2 hown2 hgrow2
      have hb2 : Below w1.drew.heap.size w1.drew w2 := (Below.refl _ _).grown hgrow2 (Nat.le_refl _) (fun k h => by cases h)
      refine Hb.next hb2 (Nat.le_refl _) ?_
      refine Hb.only 5 (some 26) rfl ?_
      refine wpList_app rfl (.tmp 22) (.tmp 25) _ rfl w1.drew.heap.size 5 _ 1 1 Tryz.underlying68 byte_info rfl (by omega) _ 0 [] rfl hown2 _ A1 c1 (n - 4) (bs (l.take (n - 4))) rfl (h1'.past hb2) (bs_one _) ?d1 ?d2 hb2.size ?_
      case d1 => unfold maxLen; omega
      case d2 => omega
      intro A3 c3 w3 hown3 hgrow3 hb3
      refine Hb.next hb3 (Nat.le_refl _) ?_
      refine Hb.take (v := .slice A3 (0 + (n - 4)) c3) 6 2 rfl ?_ (fun _ _ => rfl)
      refine Hb.take (v := Value.bool true) 7 3 rfl ?_ (fun _ _ => rfl)
      refine Hb.done ?_
-- END
      go_wp2
      go_ret2
      have el : 0 + (n - 4) = n - 4 := by omega
      have hr3 := Rd.of_own hown3
      rw [el, List.nil_append] at hr3
      refine ⟨A3, c3, ?_, ?_, (((Below.refl _ _).drew.trans hb1).drew.trans ((hb2.trans hb3).mono hsz1))⟩
      · rw [HU.out, HTL.out, el]; rfl
      · rw [HU.out, HTL.out]; exact hr3
    · rw [if_neg hq] at hu
      have HU := Lib.hid hu; clear hu
      have hne : ((u : Int) != (v : Int)) = true := by simp; omega
      clear hq
      go_enter Tryz.func137, Tryz.ntmps137
      go_wp2
-- REGION curfew/crc.Open 2 open2ne 6
      refine Hb.begin ?_
      refine Hb.take (v := .int .i64 ((n : Int) - 4)) 0 8 rfl ?_ (fun _ _ => rfl)
      refine Hb.take (v := .bool false) 1 9 rfl ?_ (fun w' hw' => by go_simp; first | done | omega | (simp; omega))
      refine Hb.take (v := .bool false) 2 10 rfl ?_ (fun _ _ => rfl)
      refine Hb.take (v := .slice A n c) 3 11 rfl ?_ (fun _ _ => rfl)
      refine Hb.take (v := .int .i64 ((n : Int) - 4)) 4 12 rfl ?_ (fun _ _ => rfl)
      refine Hb.take (v := .slice A1 (n - 4) c1) 5 13 rfl ?_ (fun w' hw' => by exact run_sliceOp (C1 w'))
      refine Hb.take (v := .slice A n c) 7 15 rfl ?_ (fun _ _ => rfl)
      refine Hb.take (v := .int .i64 ((n : Int) - 4)) 8 16 rfl ?_ (fun _ _ => rfl)
      refine Hb.take (v := .slice (some ⟨b, o, none⟩) 4 c2) 9 17 rfl ?_ (fun w' hw' => by exact run_sliceOp (C2 w'))
      refine Hb.call (f := 184) (args := #[.slice A1 (n - 4) c1]) 6 14 rfl ?_ (run_callf Tryz.func184 (by kernel_rfl) (by kernel_rfl) (by simp only [List.map_toArray, List.map_cons, List.map_nil]; rfl))
      refine (Sum_c w.drew _ A1 c1 (n - 4) (l.take (n - 4)) h1 (hb.take _) ht).mono ?_
      rw [HSU.out]
      rintro e w1 ⟨rfl, rfl⟩
      refine Hb.back (Below.refl _ _) (Nat.le_refl _) ?_
      refine Hb.call (f := 185) (args := #[.slice (some ⟨b, o, none⟩) 4 c2]) 10 18 rfl ?_ (run_callf Tryz.func185 (by kernel_rfl) (by kernel_rfl) (by simp only [List.map_toArray, List.map_cons, List.map_nil]; rfl))
      refine (sumAt_c w.drew b o c2 x0 x1 x2 x3 h20 h21 h22 h23 l0' l1' l2' l3').mono ?_
      rw [HTV.out]
      rintro e w1 ⟨rfl, hb1⟩
      refine Hb.back hb1 (Nat.le_refl _) ?_
      refine Hb.take (v := .bool true) 11 19 rfl ?_ (fun w' hw' => by go_simp; first | done | omega | (simp; omega))
      refine Hb.take (v := .bool true) 12 20 rfl ?_ (fun _ _ => rfl)
      refine Hb.done ?_
-- END
      go_wp2
      go_ret2
      exact openPost_no HU.out ((Below.refl _ _).drew.trans hb1)

end Go.Proofs.YtacipjdaiglnjaaGreatDoor

