/- One byte of a number. -/
import Derived.Test.YtkckibcfanaglaaDoorRows
import Derived.Test.YtkckibcfanaglaaDoorSeg1
import Derived.Lib.Zigzag
import Derived.Deep.DeepMust
import Derived.Laws.BitsAllLaws
import Derived.Test.YtkckibcfanaglaaDoorSeg3
import Derived.Test.YtkckibcfanaglaaDoorSeg5
import Derived.Test.YtkckibcfanaglaaDoorSeg2
import Derived.Lib.LaidTab
import Derived.LaidMore
import Derived.Laws.Cover3
import Derived.Great.BuildSlice
namespace Go.Proofs.YtkckibcfanaglaaDoor
open Go.RowKit

theorem seven_byte (u : Nat) : bits BinOp.or IntKind.u8 ((u : Int) % 256) 128 = ((u % 128 + 128 : Nat) : Int) := by
  rw [u8_or _ _ (by omega) (by omega) (by omega) (by omega)]
  have e : ((u : Int) % 256).toNat = u % 256 := by omega
  rw [e, show (128 : Int).toNat = 128 from rfl]
  have h := Nat.or_comm
  by_cases hb : u % 256 < 128
  · rw [h, nat_join7 128 (u % 256) (by decide) hb]; omega
  · have e2 : u % 256 = 128 + u % 128 := by omega
    have e3 : (128 + u % 128) = (128 ||| u % 128) := (nat_join7 128 (u % 128) (by decide) (by omega)).symm
    rw [e2, e3, h, ← Nat.or_assoc, Nat.or_self, ← e3]; omega
end Go.Proofs.YtkckibcfanaglaaDoor

/- Contracts of fold, withRoom, appendSevens. -/
namespace Go.Proofs.YtkckibcfanaglaaDoor
open Go.RowKit


theorem fold_c (n : Int) (w : World) (h1 : -9223372036854775808 ≤ n) (h2 : n ≤ 9223372036854775807) :
    Calls Tryd.prog 44 #[.int .i64 n] w fun e w' => e = .returned (.int .u64 (PNum.zig n)) ∧ w = w' := by
  have key : bits BinOp.xor IntKind.u64 (IntKind.u64.wrap (IntKind.u64.wrap n * 2)) (IntKind.u64.wrap (n / 9223372036854775808)) = (PNum.zig n : Int) := by
    by_cases hn : 0 ≤ n
    · have e : n / 9223372036854775808 = 0 := by omega
      have e2 : IntKind.u64.wrap (IntKind.u64.wrap n * 2) = ((2 * n).toNat : Int) := by rw [IntKind.wrap_u64, IntKind.wrap_u64]; omega
      rw [e, e2, show IntKind.u64.wrap 0 = ((0 : Nat) : Int) from rfl, bits_xor_u64_nat _ _ (by omega) (by omega), Nat.xor_zero]
      unfold PNum.zig; rw [if_neg (by omega)]
    · have e : n / 9223372036854775808 = -1 := by omega
      have e2 : IntKind.u64.wrap (IntKind.u64.wrap n * 2) = (((2 * n + 18446744073709551616).toNat : Nat) : Int) := by rw [IntKind.wrap_u64, IntKind.wrap_u64]; omega
      have e3 : IntKind.u64.wrap (-1) = ((2 ^ 64 - 1 : Nat) : Int) := by decide
      rw [e, e2, e3, bits_xor_u64_nat _ _ (by omega) (by decide), Nat.xor_comm, Lib.xor_ones64 _ (by omega)]
      unfold PNum.zig; rw [if_pos (by omega)]; omega
  have K := Lib.hid key; clear key
  go_enter Tryd.func44, Tryd.ntmps44
  go_wp2
  go_ret
  exact ⟨congrArg (fun x => Ending.returned (.int .u64 x)) K.out, rfl⟩
theorem withRoom_c (w : World) (B : Nat) (A : Option Addr) (c n : Nat) (l : List Int) (s : Int) (h : Rd w B A c 1 n (bs l)) (hn : n ≤ 1099511627776) (h0 : 0 ≤ s) (h1 : s ≤ 1099511627776) :
    Calls Tryd.prog 43 #[.slice A n c, .int .i64 s] w fun e w' => ∃ A' c', e = .returned (.slice A' n c') ∧
      w'.ownsRow w.heap.size 5 1 (.slice A' n c') n (bs l) ∧ Below w.heap.size w w' := by
  obtain ⟨i0, hi, hz0, hz1, hz2⟩ := info_parts byte_info
  obtain ⟨k, rfl⟩ := Int.eq_ofNat_of_zero_le h0
  have hlen := h.len
  go_enter Tryd.func43, Tryd.ntmps43
  go_wp2_with (at_make; refine wpList_make_own _ rfl _ _ 35 rfl w.heap.size 5 i0 (.int .u8 0) 1 Tryd.underlying35 hi hz0 hz1 _ _ _ (n + k) rfl rfl (by omega) ?b2 ?b3 (Nat.le_refl _) ?_)
  case b2 => rw [hz2]; omega
  case b3 => unfold maxLen; omega
  intro w0 hown0 hgrow0
  have hb0 : Below w.heap.size w w0 := (Below.refl _ _).grown hgrow0 (Nat.le_refl _) (fun k h => by cases h)
  have hr := h.past hb0
  go_wp2_with (at_builtin; refine wpList_app rfl (.tmp 9) (.tmp 10) _ rfl w.heap.size 5 _ 1 1 Tryd.underlying35 byte_info rfl (by omega) _ 0 [] rfl hown0 B A c n (bs l) rfl hr (bs_one l) (by unfold maxLen; omega) (by omega) hb0.size ?_)
  intro A' c' w1 hown1 hgrow1 hbel1
  go_wp2
  go_ret
  exact ⟨A', c', by simp, by simpa using hown1, hb0.trans hbel1⟩
set_option maxRecDepth 100000 in
theorem appendSevens_c (w : World) (base : Nat) (A : Option Addr) (c n : Nat) (l : List Int) (u : Nat) (hown : w.ownsRow base 5 1 (.slice A n c) n (bs l)) (hbase : base ≤ w.heap.size)
    (hn : n ≤ 1099511627776) (hu : u < 18446744073709551616) :
    Calls Tryd.prog 42 #[.slice A n c, .int .u64 u] w fun e w' => ∃ A' c', e = .returned (.slice A' (n + (PNum.sev u).length) c') ∧
      w'.ownsRow base 5 1 (.slice A' (n + (PNum.sev u).length) c') (n + (PNum.sev u).length) (bs (l ++ PNum.sev u)) ∧ Below base w w' := by
  have hten := PNum.sev_ten u hu
  go_enter Tryd.func42, Tryd.ntmps42
  go_wp2
  go_loopw [0, 1] (fun s0 s1 wr => ∃ (A' : Option Addr) (c' n' v : Nat) (m : List Int), s0 = .slice A' n' c' ∧ s1 = .int .u64 v ∧ v < 18446744073709551616 ∧ n' ≤ n + 10 ∧
      wr.ownsRow base 5 1 (.slice A' n' c') n' (bs (l ++ m)) ∧ n' + (PNum.sev v).length = n + (PNum.sev u).length ∧ m ++ PNum.sev v = PNum.sev u ∧ Below base w wr)
    (fun _ s1 _ => (intOf s1).toNat)
  case atStart => exact ⟨A, c, n, u, [], rfl, rfl, hu, by omega, by simpa using hown, rfl, rfl, Below.refl _ _⟩
  case round =>
    obtain ⟨A', c', n', v, m, rfl, rfl, hv, hn', hown', hlen, hm, hbel⟩ := hrel
    have HL := Lib.hid hlen; clear hlen
    have HM := Lib.hid hm; clear hm
    have hsz := hbel.size
    have HV := Lib.hid hv; clear hv
    have HU := Lib.hid hu; clear hu
    have HN := Lib.hid hn; clear hn
    by_cases hlt : 128 ≤ v
    · have hs := PNum.sev_hi hlt
      have HS := Lib.hid hs; clear hs
      have hb := seven_byte v
      have HB := Lib.hid hb; clear hb
      go_wp2_with (at_builtin; go_must (refine wpList_push rfl (.tmp 9) (.tmp 13) _ rfl base 5 _ 1 Tryd.underlying35 byte_info rfl A' c' n' (bs (l ++ m)) rfl hown' rfl rfl ?c2 ?c3 ?c4 ?_))
      case c2 => have := HN.out; unfold maxLen; omega
      case c3 => have := HN.out; omega
      case c4 => omega
      intro A2 c2 w2 hown2 hgrow2 hbel2
      rw [HB.out] at hown2
      go_wp2
      go_roundw
      case rel =>
        have h1 := HL.out; have h2 := HM.out; have h3 := HS.out; have h4 := HV.out
        rw [h3] at h1 h2
        refine ⟨A2, c2, n' + 1, v / 128, m ++ [((v % 128 + 128 : Nat) : Int)], rfl, by go_num, by omega, ?_, ?_, by simp at h1; omega, by simpa using h2, hbel.trans hbel2⟩
        · simp at h1; omega
        · simpa [bs] using hown2
      case measure => simp [intOf]; omega
    · go_wp2_with (at_builtin; go_must (refine wpList_push rfl (.tmp 15) (.tmp 18) _ rfl base 5 _ 1 Tryd.underlying35 byte_info rfl A' c' n' (bs (l ++ m)) rfl hown' rfl rfl ?c2 ?c3 ?c4 ?_))
      case c2 => have := HN.out; unfold maxLen; omega
      case c3 => have := HN.out; omega
      case c4 => omega
      intro A2 c2 w2 hown2 hgrow2 hbel2
      go_wp2
      go_ret
      have h1 := HL.out; have h2 := HM.out
      rw [PNum.sev_lo (by omega)] at h1 h2
      simp at h1
      refine ⟨A2, c2, ?_, ?_, hbel.trans hbel2⟩
      · rw [← h1]; rfl
      · rw [← h1, ← h2]
        have e : ((v : Int) % 256) = v := by omega
        simpa [bs, e] using hown2
end Go.Proofs.YtkckibcfanaglaaDoor

/- Contract of PutText. -/
namespace Go.Proofs.YtkckibcfanaglaaDoor
open Go.RowKit

theorem PutText_c (w : World) (B : Nat) (A : Option Addr) (c n : Nat) (l : List Int) (s : ByteArray) (h : Rd w B A c 1 n (bs l)) (hn : n ≤ 500000000000) (hs : s.size ≤ 500000000000) :
    Calls Tryd.prog 52 #[.slice A n c, .string s] w fun e w' => ∃ A' c', e = .returned (.slice A' (n + (PNum.sev (PNum.zig s.size)).length + s.size) c') ∧
      w'.ownsRow w.heap.size 5 1 (.slice A' (n + (PNum.sev (PNum.zig s.size)).length + s.size) c') (n + (PNum.sev (PNum.zig s.size)).length + s.size) (bs (l ++ PNum.sev (PNum.zig s.size) ++ sb s)) ∧ Below w.heap.size w w' := by
  have HN := Lib.hid hn; clear hn
  have hz : PNum.zig s.size < 18446744073709551616 := PNum.zig_lt _ (by omega) (by omega)
  have ht := PNum.sev_ten _ hz
  have HT := Lib.hid ht; clear ht
  have HZ := Lib.hid hz; clear hz
  go_enter Tryd.func52, Tryd.ntmps52
  go_wp2_with fail
  refine (withRoom_c w B A c n l _ h (by have := HN.out; omega) (by omega) (by omega)).mono ?_
  rintro e w1 ⟨A1, c1, rfl, hown1, hb1⟩
  go_wp2_with fail
  refine (fold_c s.size w1 (by omega) (by omega)).mono ?_
  rintro e w2 ⟨rfl, rfl⟩
  go_wp2_with fail
  refine (appendSevens_c w1 w.heap.size A1 c1 n l (PNum.zig s.size) hown1 hb1.size (by have := HN.out; omega) HZ.out).mono ?_
  rintro e w2 ⟨A2, c2, rfl, hown2, hb2⟩
  have hsz := hb1.size
  have hsz2 := hb2.size
  go_wp2_with (at_builtin; go_must (refine wpList_appStr rfl (.tmp 15) (.tmp 16) _ _ rfl w.heap.size 5 Tryd.underlying35 Tryd.underlying9 byte_info _ _ _ rfl hown2 s rfl ?c1 ?c2 ?c3 ?_))
  case c1 => have := HN.out; have := HT.out; unfold maxLen; omega
  case c2 => have := HN.out; have := HT.out; omega
  case c3 => omega
  intro A3 c3 w3 hown3 hg3 hb3
  go_wp2_with fail
  go_ret
  refine ⟨A3, c3, rfl, ?_, (hb1.trans hb2).trans hb3⟩
  rw [bs_append]
  exact hown3

end Go.Proofs.YtkckibcfanaglaaDoor

/- Contracts of num.Put, num.PutText. -/
namespace Go.Proofs.YtkckibcfanaglaaDoor
open Go.RowKit

theorem Put_c (w : World) (B : Nat) (A : Option Addr) (c n : Nat) (l : List Int) (x : Int) (h : Rd w B A c 1 n (bs l)) (hn : n ≤ 1000000000000) (h1 : -9223372036854775808 ≤ x) (h2 : x ≤ 9223372036854775807) :
    Calls Tryd.prog 32 #[.slice A n c, .int .i64 x] w fun e w' => ∃ A' c', e = .returned (.slice A' (n + (PNum.sev (PNum.zig x)).length) c') ∧
      w'.ownsRow w.heap.size 5 1 (.slice A' (n + (PNum.sev (PNum.zig x)).length) c') (n + (PNum.sev (PNum.zig x)).length) (bs (l ++ PNum.sev (PNum.zig x))) ∧ Below w.heap.size w w' := by
  have HN := Lib.hid hn; clear hn
  have H1 := Lib.hid h1; clear h1
  have H2 := Lib.hid h2; clear h2
  go_enter Tryd.func32, Tryd.ntmps32
  go_wp2_with fail
  refine (withRoom_c w B A c n l 10 h (by have := HN.out; omega) (by omega) (by omega)).mono ?_
  rintro e w1 ⟨A1, c1, rfl, hown1, hb1⟩
  go_wp2_with fail
  refine (fold_c x w1 H1.out H2.out).mono ?_
  rintro e w2 ⟨rfl, rfl⟩
  go_wp2_with fail
  refine (appendSevens_c w1 w.heap.size A1 c1 n l (PNum.zig x) hown1 hb1.size (by have := HN.out; omega) (PNum.zig_lt x H1.out H2.out)).mono ?_
  rintro e w2 ⟨A2, c2, rfl, hown2, hb2⟩
  go_wp2_with fail
  go_ret
  exact ⟨A2, c2, rfl, hown2, hb1.trans hb2⟩
end Go.Proofs.YtkckibcfanaglaaDoor

/- Contracts of numbersOf, encodeOne. -/
namespace Go.Proofs.YtkckibcfanaglaaDoor
open Go.RowKit

set_option maxRecDepth 100000 in
theorem numbersOf_c (w : World) (e : Ent) : Calls Tryd.prog 51 #[ev e] w fun x w' => x = .returned (nv e) ∧ Below w.heap.size w w' := by
  obtain ⟨fr, boot, seq, ord, lev, stamp, data⟩ := e
  show Calls _ _ #[.agg #[.int .i64 fr, .int .i64 boot, .int .i64 seq, .int .i64 ord, .int .i64 lev, .int .i64 stamp, .string data]] _ _
  go_enter Tryd.func51, Tryd.ntmps51
  go_wp2_with fail
  have K := Blk.new (w.alloc (.cells #[.int .i64 fr, .int .i64 boot, .int .i64 seq, .int .i64 ord, .int .i64 lev, .int .i64 stamp, .string data] 53)) #[.int .i64 fr, .int .i64 boot, .int .i64 seq, .int .i64 ord, .int .i64 lev, .int .i64 stamp] 85
  rw [show (w.alloc (.cells #[.int .i64 fr, .int .i64 boot, .int .i64 seq, .int .i64 ord, .int .i64 lev, .int .i64 stamp, .string data] 53)).heap.size = w.heap.size + 1 by simp] at K
  refine bodyPost_ret (v := nv ⟨fr, boot, seq, ord, lev, stamp, data⟩) (results_cell_row rfl _ _ (w.heap.size + 1) _ _ _ _ rfl K Tryd.underlying85 rfl (by kernel_rfl)) rfl ⟨rfl, ((Below.refl _ _).alloc (Nat.le_refl _) _).alloc (by simp) _⟩
set_option maxRecDepth 100000 in
theorem encodeOne_c (w : World) (e : Ent) (hf : PEnt.Fit e) (hd : e.data.size ≤ 65536) : Calls Tryd.prog 47 #[ev e] w fun x w' => ∃ A' c', x = .returned (.slice A' (PEnt.encE e).length c') ∧
    w'.ownsRow w.heap.size 5 1 (.slice A' (PEnt.encE e).length c') (PEnt.encE e).length (bs (PEnt.encE e)) ∧ Below w.heap.size w w' := by
  have HF := Lib.hid hf
  have HNF := Lib.hid (PEnt.nums_fit hf)
  have HD := Lib.hid hd
  have HN := Lib.hid (show PEnt.nums e = [e.fr, e.boot, e.seq, e.ord, e.lev, e.stamp] from rfl)
  have HV := Lib.hid (show nv e = .agg ((PEnt.nums e).map (Value.int .i64)).toArray from rfl)
  have KN := Lib.hid (fun w => numbersOf_c w e)
  have HE := Lib.hid (show PEnt.encE e = PEnt.encN (PEnt.nums e) ++ (PNum.sev (PNum.zig e.data.size) ++ sb e.data) from rfl)
  have HL := Lib.hid (show (PEnt.nums e).length = 6 from rfl)
  generalize PEnt.nums e = N at *
  generalize PEnt.encE e = E at *
  clear hf hd
  obtain ⟨fr, boot, seq, ord, lev, stamp, data⟩ := e
  show Calls _ _ #[.agg #[.int .i64 fr, .int .i64 boot, .int .i64 seq, .int .i64 ord, .int .i64 lev, .int .i64 stamp, .string data]] _ _
  go_enter Tryd.func47, Tryd.ntmps47
  go_wp2_with fail
  have b0 := (Below.refl w.heap.size w).alloc (Nat.le_refl _) (.cells #[.int .i64 fr, .int .i64 boot, .int .i64 seq, .int .i64 ord, .int .i64 lev, .int .i64 stamp, .string data] 53)
  have k0 := Blk.newEnt w 53 ⟨fr, boot, seq, ord, lev, stamp, data⟩
  refine (KN.out _).mono ?_
  rw [HV.out]
  rintro e w1 ⟨rfl, b1⟩
  have B1 := Lib.hid (b0.trans (b1.mono b0.size))
  have K1 := Lib.hid (k0.past b1)
  clear k0 b0 b1 HV KN
  go_wp2_with fail
  go_loopw [3, 5, 8] (fun s3 _ s8 wr => ∃ (i m c : Nat) (A : Option Addr), i ≤ 6 ∧ m ≤ 10 * i ∧ s8 = .int .i64 i ∧ s3 = .slice A m c ∧ Hid (Rd wr wr.heap.size A c 1 m (bs (PEnt.encN (N.take i)))) ∧ Hid (Below w.heap.size w wr) ∧ Hid (Blk wr w.heap.size 53 (ecs ⟨fr, boot, seq, ord, lev, stamp, data⟩)))
    (fun _ _ s8 _ => 6 - (intOf s8).toNat)
  case atStart => exact ⟨0, 0, 0, none, by omega, by omega, rfl, rfl, Lib.hid (Rd.nil _ _ _), B1, K1⟩
  case round =>
    clear B1 K1
    obtain ⟨i, m, c, A, hi, hm, rfl, rfl, R, B, K⟩ := hrel
    by_cases hlt : i < 6
    · obtain ⟨x, hx⟩ : ∃ x, N[i]? = some x := ⟨_, List.getElem?_eq_getElem (by rw [HL.out]; exact hlt)⟩
      have hxf := HNF.out x (List.mem_of_getElem? hx)
      have HS := Lib.hid (encN_snoc hx)
      have HX := Lib.hid hx
      have ht := PNum.sev_ten (PNum.zig x) (PNum.zig_lt x hxf.1 hxf.2)
      have HT := Lib.hid ht
      have HFX := Lib.hid hxf
      clear hx ht hxf
      go_wp2_with (with_reducible show wpList _ _ _ ((⟨some 10, Op.index _ _ _, _, _, _, _⟩ : Oper) :: _) _ _
                   go_must (refine wpList_index1 rfl 85 (.tmp 7) (.tmp 8) rfl 6 2 Tryd.underlying85 Tryd.isAgg2 Tryd.sizeOf2 (N.map (Value.int .i64)) rfl i rfl hlt (.int .i64 x) (by rw [List.getElem?_map, HX.out]; rfl) ?_))
      refine (Put_c wr _ A c m _ x R.out (by omega) HFX.out.1 HFX.out.2).mono ?_
      rintro e w2 ⟨A2, c2, rfl, hown, b2⟩
      have R2 := Lib.hid (Rd.of_own hown)
      have B2 := Lib.hid (B.out.trans (b2.mono B.out.size))
      have K2 := Lib.hid (K.out.past b2)
      clear hown b2 R B K
      go_wp2_with fail
      go_roundw
      case rel => exact ⟨i + 1, _, c2, A2, by omega, by have := HT.out; omega, by go_num, rfl, Lib.hid (by rw [HS.out]; exact R2.out), B2, K2⟩
      case measure => simp [intOf]; omega
    · obtain rfl : i = 6 := by omega
      have hN : N.take 6 = N := List.take_of_length_le (by rw [HL.out]; omega)
      rw [hN] at R
      have hrl := Lib.hid R.out.blen
      obtain ⟨-, -, -, -, -, -, c6⟩ := K.out.ent
      clear hN K
      have hEl := Lib.hid (show E.length = m + (PNum.sev (PNum.zig data.size)).length + data.size by
        rw [HE.out, List.length_append, List.length_append, hrl.out, sb_length]; omega)
      go_wp2_with fail
      refine (PutText_c wr _ A c m _ data R.out (by omega) (by have := HD.out; omega)).mono ?_
      rintro e w2 ⟨A2, c2, rfl, hown, b2⟩
      have B2 := Lib.hid (B.out.trans (b2.mono B.out.size))
      have own2 := own_from hown B.out.size
      clear b2
      go_wp2_with fail
      go_ret
      refine ⟨A2, c2, ?_, ?_, B2.out⟩
      · rw [hEl.out]; rfl
      · rw [hEl.out]
        have e3 : PEnt.encN N ++ PNum.sev (PNum.zig data.size) ++ sb data = E := by rw [HE.out, List.append_assoc]
        rw [← e3]
        exact own2
end Go.Proofs.YtkckibcfanaglaaDoor

/- Contract of Encode. -/
namespace Go.Proofs.YtkckibcfanaglaaDoor
open Go.RowKit

set_option maxHeartbeats 1000000 in
set_option maxRecDepth 100000 in
theorem Encode_c (w : World) (B : Nat) (A : Option Addr) (c n : Nat) (l : List Ent) (h : Rd w B A c 7 n (els l)) (hn : n ≤ 1000000) :
    Calls Tryd.prog 34 #[.slice A n c] w fun x w' => ∃ A' c', x = .returned (.slice A' (PEnt.encode l).length c') ∧
      w'.ownsRow w.heap.size 5 1 (.slice A' (PEnt.encode l).length c') (PEnt.encode l).length (bs (PEnt.encode l)) ∧ Below w.heap.size w w' := by
  have R0 := Lib.hid h.tight
  have HLn := Lib.hid h.elen
  clear h
  go_enter Tryd.func34, Tryd.ntmps34
  go_wp2_with fail
  go_loopw [3, 5, 8] (fun s3 _ s8 wr => ∃ (i m c' : Nat) (A' : Option Addr), i ≤ n ∧ m ≤ 86 * i ∧ s8 = .int .i64 i ∧ s3 = .slice A' m c' ∧ Hid ((l.take i).all PEnt.may = true) ∧
      Hid (wr.ownsRow w.heap.size 5 1 (.slice A' m c') m (bs (PEnt.enc (l.take i)))) ∧ Hid (Below w.heap.size w wr))
    (fun _ _ s8 _ => n - (intOf s8).toNat)
  case atStart => exact ⟨0, 0, 0, none, by omega, by omega, rfl, rfl, Lib.hid (by simp), Lib.hid (World.ownsRow_nil _ _ _ _), Lib.hid (Below.refl _ _)⟩
  case round =>
    obtain ⟨i, m, c1, A1, hi, hm, rfl, rfl, HA, O, BL⟩ := hrel
    by_cases hlt : i < n
    · obtain ⟨b, o, e, rfl, -, he, hmem, d0, d1, d2, d3, d4, d5, d6⟩ := (R0.out.below BL.out).ent hlt
      have HE := Lib.hid he
      have HM := Lib.hid hmem
      clear he hmem
      go_wp2_with fail
      clear d0 d1 d2 d3 d4 d5 d6
      have b1 := (Below.refl wr.heap.size wr).alloc (Nat.le_refl _) (.cells #[.int .i64 e.fr, .int .i64 e.boot, .int .i64 e.seq, .int .i64 e.ord, .int .i64 e.lev, .int .i64 e.stamp, .string e.data] 53)
      have K1 := Blk.newEnt wr 53 e
      generalize wr.alloc (.cells #[.int .i64 e.fr, .int .i64 e.boot, .int .i64 e.seq, .int .i64 e.ord, .int .i64 e.lev, .int .i64 e.stamp, .string e.data] 53) = w1 at *
      cases hy : PEnt.may e
      · have HB := Lib.hid (encode_bad HM.out hy)
        refine (May_c w1 e).mono ?_
        rw [hy]
        rintro x w2 ⟨rfl, b2⟩
        have B2 := Lib.hid ((BL.out.trans (b1.mono BL.out.size)).trans (b2.mono (Nat.le_trans BL.out.size b1.size)))
        clear b1 b2 K1 hy
        go_wp2_with fail
        go_ret
        refine ⟨none, 0, ?_, ?_, B2.out⟩
        · rw [HB.out]; rfl
        · rw [HB.out]; exact World.ownsRow_nil _ _ _ _
      · have hmay := (PEnt.may_iff e).1 hy
        have HS1 := Lib.hid (show (l.take (i + 1)).all PEnt.may = true by rw [all_snoc HE.out, HA.out, hy]; rfl)
        have HS2 := Lib.hid (enc_snoc HE.out)
        have HY := Lib.hid hmay
        refine (May_c w1 e).mono ?_
        rw [hy]
        rintro x w2 ⟨rfl, b2⟩
        have B2 := Lib.hid ((BL.out.trans (b1.mono BL.out.size)).trans (b2.mono (Nat.le_trans BL.out.size b1.size)))
        have O2 := Lib.hid (own_below (own_below O.out b1) b2)
        obtain ⟨d0, d1, d2, d3, d4, d5, d6⟩ := (K1.past b2).ent
        clear b1 b2 K1 hy hmay O BL
        go_wp2_with fail
        have hd16 := HY.out.2.2.2.2.2.2
        have hel := PEnt.encE_len HY.out.fit (by omega)
        have HEL := Lib.hid (show (PEnt.encE e).length ≤ 86 by omega)
        refine (encodeOne_c w2 e HY.out.fit (by omega)).mono ?_
        clear hel
        rintro x w3 ⟨A3, c3, rfl, hown, b3⟩
        have B3 := Lib.hid (B2.out.trans (b3.mono B2.out.size))
        have O3 := Lib.hid (own_below O2.out b3)
        have R3 := Lib.hid (Rd.of_own hown)
        clear hown b3 d0 d1 d2 d3 d4 d5 d6 O2 B2
        generalize hk : (PEnt.encE e).length = k at *
        have HK := Lib.hid hk
        clear hk
        go_wp2_with (at_builtin; go_must (refine wpList_app rfl (.tmp 15) (.tmp 17) _ rfl w.heap.size 5 _ 1 1 Tryd.underlying35 byte_info rfl (by omega) _ m (bs (PEnt.enc (l.take i))) rfl O3.out _ A3 c3 k (bs (PEnt.encE e)) rfl R3.out (bs_one _) ?c1 ?c2 ?c3 ?_))
        case c1 => have := HEL.out; unfold maxLen; omega
        case c2 => have := HEL.out; omega
        case c3 => exact B3.out.size
        intro A4 c4 w4 hown4 hgrow4 hbel4
        have B4 := Lib.hid (B3.out.trans hbel4)
        have O4 := Lib.hid hown4
        clear hown4 hgrow4 hbel4 O3 R3 B3
        go_wp2_with fail
        go_roundw
        case rel => exact ⟨i + 1, m + k, c4, A4, by omega, by have := HEL.out; omega, by go_num, rfl, HS1, Lib.hid (by rw [HS2.out, bs_append]; exact O4.out), B4⟩
        case measure => simp [intOf]; omega
    · obtain rfl : i = n := by omega
      have ht : l.take i = l := List.take_of_length_le (by rw [HLn.out]; omega)
      rw [ht] at HA O
      have HG := Lib.hid (encode_good HA.out)
      have hl := O.out.1
      rw [bs_length] at hl
      have HL2 := Lib.hid (show (PEnt.enc l).length = m by omega)
      clear ht hl
      go_wp2_with fail
      go_ret
      refine ⟨A1, c1, ?_, ?_, BL.out⟩
      · rw [HG.out, HL2.out]; rfl
      · rw [HG.out, HL2.out]; exact O.out
end Go.Proofs.YtkckibcfanaglaaDoor

/- Contract of Encode of messages. -/
namespace Go.Proofs.YtkckibcfanaglaaDoor
open Go.RowKit

set_option maxHeartbeats 8000000 in
set_option maxRecDepth 100000 in
theorem wEncode_n (w : World) (m : Msg) (A : Option Addr) (c : Nat) (h : Rd w w.heap.size A c 7 m.es.length (els m.es)) (hm : -9223372036854775808 ≤ m.mem ∧ m.mem ≤ 9223372036854775807) (ht : Tab w) :
    Calls Tryd.prog 22 #[mv m A c] w fun x w' => ∃ (A' : Option Addr) (c' : Nat), x = .returned (.slice A' (PMsg.enc m).length c') ∧ (PMsg.may m = false → A' = none) ∧
      w'.ownsRow w.heap.size 5 1 (.slice A' (PMsg.enc m).length c') (PMsg.enc m).length (bs (PMsg.enc m)) ∧ Below w.heap.size w w' := by
  have b1 := (Below.refl w.heap.size w).alloc (Nat.le_refl _) (.cells #[.int .i64 m.kind, .int .i64 m.fr, .int .i64 m.dst, .int .i64 m.boot, .int .i64 m.view, .int .i64 m.last, .int .i64 m.mem, .int .i64 m.pos, .slice A m.es.length c, .int .i64 m.com, .int .i64 m.num, .int .i64 m.clk, .bool m.yes] 31)
  have K0 := Blk.new w #[.int .i64 m.kind, .int .i64 m.fr, .int .i64 m.dst, .int .i64 m.boot, .int .i64 m.view, .int .i64 m.last, .int .i64 m.mem, .int .i64 m.pos, .slice A m.es.length c, .int .i64 m.com, .int .i64 m.num, .int .i64 m.clk, .bool m.yes] 31
  have R0 := Lib.hid h
  have HT := Lib.hid ht
  have HN := Lib.hid (fun w => wNums_c w m A c)
  have HL := Lib.hid (PMsg.ns_length m)
  clear h ht
  show Calls _ _ #[.agg #[.int .i64 m.kind, .int .i64 m.fr, .int .i64 m.dst, .int .i64 m.boot, .int .i64 m.view, .int .i64 m.last, .int .i64 m.mem, .int .i64 m.pos, .slice A m.es.length c, .int .i64 m.com, .int .i64 m.num, .int .i64 m.clk, .bool m.yes]] _ _
  go_enter Tryd.func22, Tryd.ntmps22
  go_wp2_with fail
  generalize w.alloc (.cells #[.int .i64 m.kind, .int .i64 m.fr, .int .i64 m.dst, .int .i64 m.boot, .int .i64 m.view, .int .i64 m.last, .int .i64 m.mem, .int .i64 m.pos, .slice A m.es.length c, .int .i64 m.com, .int .i64 m.num, .int .i64 m.clk, .bool m.yes] 31) = w1 at *
  have BL1 := Lib.hid b1
  have K1 := Lib.hid (show Blk w1 w.heap.size 31 (mcs m A c) from K0)
  clear b1 K0
  refine (wMay_c w1 m A c ((R0.out.past BL1.out).tight) hm).mono ?_
  cases hy : PMsg.may m
  · have HE := Lib.hid (PMsg.enc_no hy)
    rintro x w2 ⟨rfl, b2⟩
    have B2 := Lib.hid (BL1.out.trans (b2.mono BL1.out.size))
    clear b2 hy HN K1
    go_wp2_with fail
    go_ret
    exact ⟨none, 0, by rw [HE.out]; rfl, fun _ => rfl, by rw [HE.out]; exact World.ownsRow_nil _ _ _ _, B2.out⟩
  · have HY := Lib.hid hy
    have HE := Lib.hid (PMsg.enc_yes hy)
    have hM := (PMsg.may_iff m).1 hy
    have HNF := Lib.hid (PMsg.ns_fit hM)
    have HES := Lib.hid hM.2.2.2.2.2.2.2.2.2.2.2.2
    have HBL := Lib.hid (PMsg.body_len hM)
    have HBD := Lib.hid (show PMsg.body m = PEnt.encN (PMsg.ns m) ++ PEnt.enc m.es from rfl)
    have HBB := Lib.hid (PMsg.body_byte m)
    rintro x w2 ⟨rfl, b2⟩
    have BL2 := Lib.hid (BL1.out.trans (b2.mono BL1.out.size))
    have K2 := Lib.hid (K1.out.past b2)
    clear b2 hy hM K1 BL1 hm
    go_wp2_with ((with_reducible show wpList _ _ _ ((⟨some 9, Op.load _ _, _, _, _, _⟩ : Oper) :: _) _ _); go_must (refine wpList_load_row rfl 31 (.tmp 1) rfl w.heap.size rfl 31 #[.int .i64 m.kind, .int .i64 m.fr, .int .i64 m.dst, .int .i64 m.boot, .int .i64 m.view, .int .i64 m.last, .int .i64 m.mem, .int .i64 m.pos, .slice A m.es.length c, .int .i64 m.com, .int .i64 m.num, .int .i64 m.clk, .bool m.yes] (0, 0) _ K2.out Tryd.underlying31 rfl (by kernel_rfl) ?_))
    refine (show Calls Tryd.prog 31 #[.agg #[.int .i64 m.kind, .int .i64 m.fr, .int .i64 m.dst, .int .i64 m.boot, .int .i64 m.view, .int .i64 m.last, .int .i64 m.mem, .int .i64 m.pos, .slice A m.es.length c, .int .i64 m.com, .int .i64 m.num, .int .i64 m.clk, .bool m.yes]] w2 (fun x w' => x = .returned (.agg ((PMsg.ns m).map (Value.int .i64)).toArray) ∧ Below w2.heap.size w2 w') from HN.out w2).mono ?_
    generalize PMsg.ns m = N at *
    generalize PMsg.body m = Y at *
    rintro x w3 ⟨rfl, b3⟩
    have B3 := Lib.hid (BL2.out.trans (b3.mono BL2.out.size))
    have K3 := Lib.hid (K2.out.past b3)
    clear b3 K2 BL2 HN
    go_wp2_with fail
    go_loopw [3, 5, 11] (fun s3 _ s11 wr => ∃ (i q c' : Nat) (A' : Option Addr), i ≤ 13 ∧ q ≤ 10 * i ∧ s11 = .int .i64 i ∧ s3 = .slice A' q c' ∧ Hid (wr.ownsRow w.heap.size 5 1 (.slice A' q c') q (bs (PEnt.encN (N.take i)))) ∧ Hid (Below w.heap.size w wr) ∧ Hid (Blk wr w.heap.size 31 (mcs m A c)))
      (fun _ _ s11 _ => 13 - (intOf s11).toNat)
    case atStart => exact ⟨0, 0, 0, none, by omega, by omega, rfl, rfl, Lib.hid (World.ownsRow_nil _ _ _ _), B3, K3⟩
    case round =>
      clear B3 K3
      obtain ⟨i, q, c1, A1, hi, hq, rfl, rfl, O, B, K⟩ := hrel
      by_cases hlt : i < 13
      · obtain ⟨x, hx⟩ : ∃ x, N[i]? = some x := ⟨_, List.getElem?_eq_getElem (by rw [HL.out]; exact hlt)⟩
        have hxf := HNF.out x (List.mem_of_getElem? hx)
        have HS := Lib.hid (encN_snoc hx)
        have HX := Lib.hid hx
        have ht := PNum.sev_ten (PNum.zig x) (PNum.zig_lt x hxf.1 hxf.2)
        have HT1 := Lib.hid ht
        have HFX := Lib.hid hxf
        clear hx ht hxf
        go_wp2_with (with_reducible show wpList _ _ _ ((⟨some 13, Op.index _ _ _, _, _, _, _⟩ : Oper) :: _) _ _
                     go_must (refine wpList_index1 rfl 63 (.tmp 10) (.tmp 11) rfl 13 2 Tryd.underlying63 Tryd.isAgg2 Tryd.sizeOf2 (N.map (Value.int .i64)) rfl i rfl hlt (.int .i64 x) (by rw [List.getElem?_map, HX.out]; rfl) ?_))
        refine (Put_c wr _ A1 c1 q _ x (Rd.of_own O.out) (by omega) HFX.out.1 HFX.out.2).mono ?_
        rintro e w2 ⟨A2, c2, rfl, hown, b2⟩
        have O2 := Lib.hid (own_from hown B.out.size)
        have B2 := Lib.hid (B.out.trans (b2.mono B.out.size))
        have K2 := Lib.hid (K.out.past b2)
        clear hown b2 O B K
        go_wp2_with fail
        go_roundw
        case rel => exact ⟨i + 1, _, c2, A2, by omega, by have := HT1.out; omega, by go_num, rfl, Lib.hid (by rw [HS.out]; exact O2.out), B2, K2⟩
        case measure => simp [intOf]; omega
      · obtain rfl : i = 13 := by omega
        have hN : N.take 13 = N := List.take_of_length_le (by rw [HL.out]; omega)
        rw [hN] at O
        have c8 := K.out.cell (i := 8) rfl
        have RE := Lib.hid ((R0.out.past B.out).tight)
        clear hN K
        go_wp2_with fail
        clear c8
        refine (Encode_c wr _ A c m.es.length m.es RE.out (by have := HES.out.1; omega)).mono ?_
        rw [encode_good HES.out.2]
        rintro e w2 ⟨A2, c2, rfl, hown, b2⟩
        have B2 := Lib.hid (B.out.trans (b2.mono B.out.size))
        have O2 := Lib.hid (own_below O.out b2)
        have R2 := Lib.hid (Rd.of_own hown)
        have HQ := Lib.hid (show q + (PEnt.enc m.es).length = Y.length by
          rw [HBD.out, List.length_append]
          have := (Rd.of_own O.out).blen
          omega)
        have HYL := HBL.out
        clear hown b2 O B RE
        generalize hj : (PEnt.enc m.es).length = j at *
        have HJ := Lib.hid (show j ≤ 5290 by have := HQ.out; omega)
        clear hj
        go_wp2_with (at_builtin; go_must (refine wpList_app rfl (.tmp 18) (.tmp 21) _ rfl w.heap.size 5 _ 1 1 Tryd.underlying35 byte_info rfl (by omega) _ q _ rfl O2.out _ A2 c2 j _ rfl R2.out (bs_one _) ?c1 ?c2 ?c3 ?_))
        case c1 => have := HJ.out; unfold maxLen; omega
        case c2 => have := HJ.out; omega
        case c3 => exact B2.out.size
        intro A6 c6 w6 hown6 hgrow6 hbel6
        have B6 := Lib.hid (B2.out.trans hbel6)
        rw [← bs_append, ← HBD.out, HQ.out] at hown6
        have R6 := Lib.hid (Rd.of_own hown6)
        have hq2 := HQ.out
        clear hown6 hgrow6 hbel6 B2 O2 R2
        go_wp2_with fail
        rw [hq2]
        refine (Seal_c w6 _ A6 c6 Y.length Y R6.out HBB.out (HT.out.past B6.out) (by omega)).mono ?_
        rintro e w7 ⟨A7, c7, rfl, hown, b7⟩
        have B7 := Lib.hid (B6.out.trans (b7.mono B6.out.size))
        have O7 := Lib.hid (own_from hown B6.out.size)
        have HEL := Lib.hid (show (PMsg.enc m).length = Y.length + 4 by rw [HE.out, sealed_length])
        clear hown b7
        go_wp2_with fail
        go_ret
        refine ⟨A7, c7, by rw [HEL.out]; rfl, fun h => absurd (HY.out.symm.trans h) (by decide), ?_, B7.out⟩
        rw [HEL.out, HE.out]
        exact O7.out
theorem wEncode_c (w : World) (m : Msg) (A : Option Addr) (c : Nat) (h : Rd w w.heap.size A c 7 m.es.length (els m.es)) (hm : -9223372036854775808 ≤ m.mem ∧ m.mem ≤ 9223372036854775807) (ht : Tab w) :
    Calls Tryd.prog 22 #[mv m A c] w fun x w' => ∃ (A' : Option Addr) (c' : Nat), x = .returned (.slice A' (PMsg.enc m).length c') ∧
      w'.ownsRow w.heap.size 5 1 (.slice A' (PMsg.enc m).length c') (PMsg.enc m).length (bs (PMsg.enc m)) ∧ Below w.heap.size w w' :=
  (wEncode_n w m A c h hm ht).mono fun _ _ ⟨A', c', h1, _, h2, h3⟩ => ⟨A', c', h1, h2, h3⟩
end Go.Proofs.YtkckibcfanaglaaDoor

/- What the rows' condition on the listed variables gives: the table of crc lies as it is declared. -/
namespace Go.Proofs.YtkckibcfanaglaaDoor
open Go.RowKit

/-- What the walks ask of the listed variables. -/
def LaidIs (w : World) : Prop := Tab w

theorem laidIs_of {W : World} (h : laidMetH Tryd.prog [("curfew/crc.halves", Rows.laid_curfew_crc_halves)] W) : LaidIs W := by
  rw [MakeChecks.laidMetH_plain _ _ _ (by kernel_rfl)] at h
  have hT : Lib.TabIs Tryd.prog W "curfew/crc.halves" .u32 (PCrc.tab.map fun n : Nat => (n : Int)) :=
    Lib.tabIs_of_head (g := 0) (t := 83) (e := 68) (n := 16) (rest := []) (by kernel_rfl) (by kernel_rfl) Tryd.underlying83 Tryd.underlying68 (by kernel_rfl) (by kernel_rfl) h
  intro j hj
  have := hT.cell (g := 0) (by kernel_rfl) j (by simpa [PCrc.tab] using hj)
  rw [this]
  simp [List.getD, List.getElem?_map]
  cases PCrc.tab[j]? <;> simp

end Go.Proofs.YtkckibcfanaglaaDoor

/- Contract of Send of a net. -/
namespace Go.Proofs.YtkckibcfanaglaaDoor
open Go.RowKit

theorem Tab.touch {w w' : World} {S : List Nat} (h : Tab w) (ht : Touch S w w') (hs : 0 ∉ S) : Tab w' := fun j hj => by
  have := h j hj
  unfold World.cell? at this ⊢
  rw [show w'.heap[(⟨0, j, none⟩ : Addr).block]? = w.heap[(⟨0, j, none⟩ : Addr).block]? from ht.block _ h.lt hs]
  exact this
/-- A packet is built. -/
theorem run_buildP {w : World} {dst : Option Tmp} {x y : Operand} {ty : TypeId} {pos : String} {after : Array Edge} {guard : Option (Nat × Bool)} {ρ : Operand → Value} {p : Int} {A : Option Addr} {n c : Nat}
    (hx : ρ x = .int .i64 p) (hy : ρ y = .slice A n c) : (execOp ρ { dst, op := .build 55 #[(0, x), (1, y)], type := ty, pos, after, guard }).run Tryd.prog w = .ok (.value (.agg #[.int .i64 p, .slice A n c])) w := by
  go_simp
theorem wpList_buildP {w : World} {ops : Array Oper} {rest : List Oper} {o : Oper} {a : Act} {Q : Exit → Act → World → Prop} (hgd : o.guard = none) (x : Operand) (ho : o.op = .buildSlice 46 1 #[(0, x)]) (q : Mp) (hx : a.eval x = .agg #[.int .i64 q.m.dst, .slice q.A (PMsg.enc q.m).length q.c])
    (h : wpList Tryd.prog ops Q rest (a.put o.dst (.slice (some ⟨w.heap.size, 0, none⟩) 1 1)) (w.alloc (.cells (pcs q).toArray 55))) : wpList Tryd.prog ops Q (o :: rest) a w := by
  obtain ⟨i, hi0, hz, hk, -⟩ := info_parts pk_info
  refine wpList_buildSlice hgd 46 55 1 _ ho (pcs q).toArray i (.agg #[.int .i64 0, .slice none 0 0]) Tryd.underlying46 hi0 hz (by rw [hk]; omega) (by rw [hk]; omega) ?_ h
  rw [hk]
  have hb : (Array.range (1 * 2)).map (fun x => (Value.agg #[.int .i64 0, .slice none 0 0]).cells[x % (Value.agg #[.int .i64 0, .slice none 0 0]).cells.size]!) = #[.int .i64 0, .slice none 0 0] := by kernel_rfl
  rw [hb]
  simp [Instr.fill, pcs, Value.cells, hx]

theorem wpList_skipN {P : Program} {ops : Array Oper} {Q : Exit → Act → World → Prop} {rest : List Oper} {o : Oper} {a : Act} {w : World} (hg : o.guard = none) (hd : o.dst = none) (w' : World) (hrun : (execOp a.eval o).run P w = .ok .skip w')
    (h : wpList P ops Q rest a w') : wpList P ops Q (o :: rest) a w := by
  refine wpList_plain hg fun K hK => ?_
  unfold Oper.wp
  rw [hrun]
  have h' : wpList P ops Q rest (a.put o.dst undef) w' := by rw [hd]; exact h
  exact hK _ _ h'

theorem nSend_nil (w : World) (A : Option Addr) (n c : Nat) : Calls Tryd.prog 12 #[.pointer none, .slice A n c] w fun e w' => e = .returned (.int .i64 0) ∧ w = w' := by
  go_enter Tryd.func12, Tryd.ntmps12
  go_wp2_with fail
  go_ret
  exact ⟨rfl, rfl⟩

set_option maxHeartbeats 8000000 in
set_option maxRecDepth 100000 in
theorem nSend_c (w : World) (g : Nat) (F : List Nat) (L : List Msg) (base : Nat) (A : Option Addr) (c : Nat) (Q : List Mp) (hn : Nt w g F L) (hm : Ms w base A c Q) (ht : Tab w) (hT : 0 ∉ F) (hl : Q.length ≤ 100000) :
    Calls Tryd.prog 12 #[.pointer (some ⟨g, 0, none⟩), .slice A Q.length c] w fun e w' => e = .returned (.int .i64 (((PNet.send L (Q.map Mp.m)).length : Int) - (L.length : Int))) ∧ NtW w w' g F (PNet.send L (Q.map Mp.m)) := by
  have HN := Lib.hid hn
  have HM := Lib.hid hm
  have HT := Lib.hid ht
  have HTF := Lib.hid hT
  have hL := hn.le
  have W0 := Lib.hid (show NtW w w g F (PNet.send L ((Q.map Mp.m).take 0)) from NtW.same hn (Below.refl _ _))
  obtain ⟨A0, c0, Q0, e0, hB0, -, -, -⟩ := hn.ex
  have k0 := hB0.cell (i := 0) rfl
  have el : Q0.length = L.length := by rw [e0, List.length_map]
  rw [el] at k0
  clear hn hm ht hT hB0 e0 el
  go_enter Tryd.func12, Tryd.ntmps12
  go_wp2_with fail
  clear k0
  go_loopw [18] (fun s18 wr => ∃ i : Nat, s18 = .int .i64 i ∧ i ≤ Q.length ∧ Hid (NtW w wr g F (PNet.send L ((Q.map Mp.m).take i)))) (fun s18 _ => Q.length - (intOf s18).toNat)
  case atStart => exact ⟨0, rfl, by omega, W0⟩
  case round =>
    clear W0
    obtain ⟨i, rfl, hi, W⟩ := hrel
    obtain ⟨⟨F1, N1, hF1⟩, T1⟩ := W.out
    have MS := Lib.hid (HM.out.net HN.out T1)
    have TB := Lib.hid (HT.out.touch T1 HTF.out)
    have TW := Lib.hid T1
    have HF1 := Lib.hid hF1
    have hle1 := N1.le
    obtain ⟨A1, c1, Q1, e1, hB1, hO1, hQ1, rfl⟩ := N1.ex
    have E1 := Lib.hid e1
    have EL := Lib.hid (show (PNet.send L ((Q.map Mp.m).take i)).length = Q1.length by rw [e1, List.length_map])
    rw [EL.out] at hle1
    have HB := Lib.hid hB1
    have HO := Lib.hid hO1
    have HQ := Lib.hid hQ1
    clear T1 hF1 N1 e1 hB1 hO1 hQ1
    by_cases hlt : i < Q.length
    · obtain ⟨b, o, q, rfl, -, hq, hqm, hrg, hre⟩ := MS.out.at_ hlt
      have HRG := Lib.hid hrg
      have HXM := Lib.hid (show (Q.map Mp.m)[i]? = some q.m by rw [List.getElem?_map, hq]; rfl)
      have HFT := Lib.hid (HM.out.fit q hqm)
      have b0 := (Below.refl wr.heap.size wr).alloc (Nat.le_refl _) (.cells #[.int .i64 0, .int .i64 0, .int .i64 0, .int .i64 0, .int .i64 0, .int .i64 0, .int .i64 0, .int .i64 0, .slice none 0 0, .int .i64 0, .int .i64 0, .int .i64 0, .bool false] 31)
      have K0 := Blk.new wr #[.int .i64 0, .int .i64 0, .int .i64 0, .int .i64 0, .int .i64 0, .int .i64 0, .int .i64 0, .int .i64 0, .slice none 0 0, .int .i64 0, .int .i64 0, .int .i64 0, .bool false] 31
      have b4 := b0.trans (grown_below (grown_row (wr.alloc (.cells #[.int .i64 0, .int .i64 0, .int .i64 0, .int .i64 0, .int .i64 0, .int .i64 0, .int .i64 0, .int .i64 0, .slice none 0 0, .int .i64 0, .int .i64 0, .int .i64 0, .bool false] 31)) wr.heap.size #[.int .i64 q.m.kind, .int .i64 q.m.fr, .int .i64 q.m.dst, .int .i64 q.m.boot, .int .i64 q.m.view, .int .i64 q.m.last, .int .i64 q.m.mem, .int .i64 q.m.pos, .slice q.A q.m.es.length q.c, .int .i64 q.m.com, .int .i64 q.m.num, .int .i64 q.m.clk, .bool q.m.yes]) (Nat.le_refl _) b0.size)
      have KZ := Lib.hid K0
      have K4 := Lib.hid (show Blk ((wr.alloc (.cells #[.int .i64 0, .int .i64 0, .int .i64 0, .int .i64 0, .int .i64 0, .int .i64 0, .int .i64 0, .int .i64 0, .slice none 0 0, .int .i64 0, .int .i64 0, .int .i64 0, .bool false] 31)).setRow wr.heap.size #[.int .i64 q.m.kind, .int .i64 q.m.fr, .int .i64 q.m.dst, .int .i64 q.m.boot, .int .i64 q.m.view, .int .i64 q.m.last, .int .i64 q.m.mem, .int .i64 q.m.pos, .slice q.A q.m.es.length q.c, .int .i64 q.m.com, .int .i64 q.m.num, .int .i64 q.m.clk, .bool q.m.yes]) wr.heap.size 31 (mcs q.m q.A q.c) from K0.row #[.int .i64 q.m.kind, .int .i64 q.m.fr, .int .i64 q.m.dst, .int .i64 q.m.boot, .int .i64 q.m.view, .int .i64 q.m.last, .int .i64 q.m.mem, .int .i64 q.m.pos, .slice q.A q.m.es.length q.c, .int .i64 q.m.com, .int .i64 q.m.num, .int .i64 q.m.clk, .bool q.m.yes])
      have RE4 := Lib.hid ((hre.past b4).tight)
      have HB4 := Lib.hid (HB.out.past b4)
      have HO4 := Lib.hid (HO.out.past b4)
      have HQ4 := Lib.hid (show ∀ p ∈ Q1, Ow ((wr.alloc (.cells #[.int .i64 0, .int .i64 0, .int .i64 0, .int .i64 0, .int .i64 0, .int .i64 0, .int .i64 0, .int .i64 0, .slice none 0 0, .int .i64 0, .int .i64 0, .int .i64 0, .bool false] 31)).setRow wr.heap.size #[.int .i64 q.m.kind, .int .i64 q.m.fr, .int .i64 q.m.dst, .int .i64 q.m.boot, .int .i64 q.m.view, .int .i64 q.m.last, .int .i64 q.m.mem, .int .i64 q.m.pos, .slice q.A q.m.es.length q.c, .int .i64 q.m.com, .int .i64 q.m.num, .int .i64 q.m.clk, .bool q.m.yes]) 0 5 1 p.A (PMsg.enc p.m).length p.c (bs (PMsg.enc p.m)) from fun p hp => (HQ.out p hp).past b4)
      have TB4 := Lib.hid (TB.out.past b4)
      have B4 := Lib.hid b4
      have k0 := HB4.out.cell (i := 0) rfl
      clear hq hqm hrg hre b0 K0 b4 HB HO HQ TB
      by_cases hfull : 400 ≤ Q1.length
      · have h1 : (400 : Int) ≤ (Q1.length : Int) := by omega
        have HE := Lib.hid (PNet.send_stop (L := L) (ms := Q.map Mp.m) (i := i) (by rw [EL.out]; exact hfull))
        have hgr : L.length ≤ Q1.length := by rw [← EL.out]; exact PNet.send_grow
        go_wp2_with (first | ((with_reducible show wpList _ _ _ ((⟨none, Op.store 31 (.tmp 7) _, _, _, _, _⟩ : Oper) :: _) _ _); go_must (refine wpList_store_row rfl 31 (.tmp 7) (.tmp 21) rfl wr.heap.size _ rfl rfl _ _ KZ.out (by kernel_rfl) (by rfl) (by kernel_rfl) ?_)) | ((with_reducible show wpList _ _ _ ((⟨some 21, Op.load _ _, _, _, _, _⟩ : Oper) :: _) _ _); go_must (refine wpList_load_mid rfl 31 (.tmp 20) rfl b (o + i * 13) rfl ([.int .i64 q.m.kind, .int .i64 q.m.fr, .int .i64 q.m.dst, .int .i64 q.m.boot, .int .i64 q.m.view, .int .i64 q.m.last, .int .i64 q.m.mem, .int .i64 q.m.pos, .slice q.A q.m.es.length q.c, .int .i64 q.m.com, .int .i64 q.m.num, .int .i64 q.m.clk, .bool q.m.yes]) _ HRG.out Tryd.underlying31 rfl (by kernel_rfl) ?_)))
        clear KZ
        go_ret
        exact ⟨by rw [HE.out, EL.out]; rfl, by rw [HE.out]; exact W.out.ahead B4.out⟩
      · have h1 : ¬ (400 : Int) ≤ (Q1.length : Int) := by omega
        go_wp2_with (first | ((with_reducible show wpList _ _ _ ((⟨none, Op.store 31 (.tmp 7) _, _, _, _, _⟩ : Oper) :: _) _ _); go_must (refine wpList_store_row rfl 31 (.tmp 7) (.tmp 21) rfl wr.heap.size _ rfl rfl _ _ KZ.out (by kernel_rfl) (by rfl) (by kernel_rfl) ?_)) | ((with_reducible show wpList _ _ _ ((⟨some 21, Op.load _ _, _, _, _, _⟩ : Oper) :: _) _ _); go_must (refine wpList_load_mid rfl 31 (.tmp 20) rfl b (o + i * 13) rfl ([.int .i64 q.m.kind, .int .i64 q.m.fr, .int .i64 q.m.dst, .int .i64 q.m.boot, .int .i64 q.m.view, .int .i64 q.m.last, .int .i64 q.m.mem, .int .i64 q.m.pos, .slice q.A q.m.es.length q.c, .int .i64 q.m.com, .int .i64 q.m.num, .int .i64 q.m.clk, .bool q.m.yes]) _ HRG.out Tryd.underlying31 rfl (by kernel_rfl) ?_)) | ((with_reducible show wpList _ _ _ ((⟨some 28, Op.load _ _, _, _, _, _⟩ : Oper) :: _) _ _); go_must (refine wpList_load_row rfl 31 (.tmp 7) rfl wr.heap.size rfl 31 #[.int .i64 q.m.kind, .int .i64 q.m.fr, .int .i64 q.m.dst, .int .i64 q.m.boot, .int .i64 q.m.view, .int .i64 q.m.last, .int .i64 q.m.mem, .int .i64 q.m.pos, .slice q.A q.m.es.length q.c, .int .i64 q.m.com, .int .i64 q.m.num, .int .i64 q.m.clk, .bool q.m.yes] (0, 0) _ K4.out Tryd.underlying31 rfl (by kernel_rfl) ?_)))
        clear KZ HRG
        generalize ((wr.alloc (.cells #[.int .i64 0, .int .i64 0, .int .i64 0, .int .i64 0, .int .i64 0, .int .i64 0, .int .i64 0, .int .i64 0, .slice none 0 0, .int .i64 0, .int .i64 0, .int .i64 0, .bool false] 31)).setRow wr.heap.size #[.int .i64 q.m.kind, .int .i64 q.m.fr, .int .i64 q.m.dst, .int .i64 q.m.boot, .int .i64 q.m.view, .int .i64 q.m.last, .int .i64 q.m.mem, .int .i64 q.m.pos, .slice q.A q.m.es.length q.c, .int .i64 q.m.com, .int .i64 q.m.num, .int .i64 q.m.clk, .bool q.m.yes]) = w4 at *
        refine (show Calls _ _ #[.agg #[.int .i64 q.m.kind, .int .i64 q.m.fr, .int .i64 q.m.dst, .int .i64 q.m.boot, .int .i64 q.m.view, .int .i64 q.m.last, .int .i64 q.m.mem, .int .i64 q.m.pos, .slice q.A q.m.es.length q.c, .int .i64 q.m.com, .int .i64 q.m.num, .int .i64 q.m.clk, .bool q.m.yes]] w4 _ from wEncode_n w4 q.m q.A q.c RE4.out HFT.out TB4.out).mono ?_
        cases hy : PMsg.may q.m
        · have HP := Lib.hid (PNet.put_no (L := PNet.send L ((Q.map Mp.m).take i)) hy)
          have HS := Lib.hid (PNet.send_next (L := L) HXM.out)
          rintro x w5 ⟨A5, c5, rfl, hnil, o5, b5⟩
          obtain rfl := hnil rfl
          have b6 : Below wr.heap.size wr w5 := B4.out.trans (b5.mono B4.out.size)
          have W6 := Lib.hid (W.out.ahead b6)
          have hne : ∀ W, (binOp .neq 35 (.slice none (PMsg.enc q.m).length c5) (.slice none 0 0)).run Tryd.prog W = .ok (.bool false) W := fun W => run_neq_slice_nil W _ _ none _ _ Tryd.underlying35
          clear hy o5 b5 b6 K4 RE4 HB4 HO4 HQ4 TB4 B4 k0 W
          go_wp2_with fail
          go_roundw
          case rel => exact ⟨i + 1, by go_num, by omega, Lib.hid (by rw [HS.out, HP.out]; exact W6.out)⟩
          case measure => simp [intOf]; omega
        · have HP := Lib.hid (PNet.put_yes (L := PNet.send L ((Q.map Mp.m).take i)) (by rw [EL.out]; omega) hy)
          have HS := Lib.hid (PNet.send_next (L := L) HXM.out)
          have HPOS := Lib.hid (PMsg.enc_pos hy)
          rintro x w5 ⟨A5, c5, rfl, -, o5, b5⟩
          obtain ⟨g5, rfl, hg5, -⟩ := own_some o5 HPOS.out
          have B5 := Lib.hid (show Below wr.heap.size wr w5.drew from (B4.out.trans (b5.mono B4.out.size)).drew)
          have O5 := Lib.hid (show Ow w5.drew w4.heap.size 5 1 (some ⟨g5, 0, none⟩) (PMsg.enc q.m).length c5 (bs (PMsg.enc q.m)) from Ow.of_own o5)
          have hne : ∀ W, (binOp .neq 35 (.slice (some ⟨g5, 0, none⟩) (PMsg.enc q.m).length c5) (.slice none 0 0)).run Tryd.prog W = .ok (.bool true) W := fun W => run_neq_slice_nil W _ _ (some ⟨g5, 0, none⟩) _ _ Tryd.underlying35
          have K5 := Lib.hid (show Blk w5.drew wr.heap.size 31 (mcs q.m q.A q.c) from K4.out.past b5.drew)
          have HB5 := Lib.hid (show Blk w5.drew g 48 [.slice A1 Q1.length c1] from HB4.out.past b5.drew)
          have HO5 := Lib.hid (show Ow w5.drew 0 55 2 A1 Q1.length c1 (pks Q1) from HO4.out.past b5.drew)
          have HQ5 := Lib.hid (show ∀ p ∈ Q1, Ow w5.drew 0 5 1 p.A (PMsg.enc p.m).length p.c (bs (PMsg.enc p.m)) from fun p hp => (HQ4.out p hp).past b5.drew)
          clear hy o5 b5 hg5 K4 RE4 HB4 HO4 HQ4 TB4 k0
          go_wp2_with fail
          clear hne
          have HG := Lib.hid (show bk A1 ≠ some g from HO5.out.ne HB5.out (by decide))
          have KG := Lib.hid (show wr.heap.size ∉ g :: bl A1 from fun hm => by
            rcases List.mem_cons.1 hm with h | h
            · exact K5.out.ne HB5.out (by decide) h
            · exact HO5.out.ne K5.out (by decide) (mem_bl.1 h))
          have BA := Lib.hid (show Below w5.drew.heap.size w5.drew (w5.drew.alloc (.cells (pcs ⟨q.m, some ⟨g5, 0, none⟩, c5⟩).toArray 55)) from (Below.refl _ _).alloc (Nat.le_refl _) _)
          have BW := Lib.hid (B5.out.trans (BA.out.mono B5.out.size))
          have HBA := Lib.hid (HB5.out.past BA.out)
          have HOA := Lib.hid (HO5.out.past BA.out)
          have HQA := Lib.hid (show ∀ p ∈ Q1, Ow (w5.drew.alloc (.cells (pcs ⟨q.m, some ⟨g5, 0, none⟩, c5⟩).toArray 55)) 0 5 1 p.A (PMsg.enc p.m).length p.c (bs (PMsg.enc p.m)) from fun p hp => (HQ5.out p hp).past BA.out)
          have OA := Lib.hid ((O5.out.past BA.out).down B4.out.size)
          have HNW := Lib.hid (Rd.new w5.drew (pcs ⟨q.m, some ⟨g5, 0, none⟩, c5⟩).toArray 55 2 1 rfl (by unfold maxLen; omega))
          have HR := Lib.hid (show Q1.length < 400 by omega)
          refine Hs.begin (g :: bl A1) ?_
          refine Hs.take (v := .pointer (some ⟨g, 0, none⟩)) 0 32 rfl ?_ (fun _ _ => rfl)
          refine Hs.take (v := .pointer (some ⟨g, 0, none⟩)) 1 33 rfl ?_ (fun _ _ => rfl)
          refine Hs.take (v := .pointer (some ⟨g, 0, none⟩)) 2 34 rfl ?_ (fun _ _ => rfl)
          refine Hs.take (v := .pointer (some ⟨g, 0, none⟩)) 3 35 rfl ?_ (fun w' hw' => by go_simp)
          refine Hs.take (v := .pointer (some ⟨wr.heap.size, 2, none⟩)) 5 37 rfl ?_ (fun w' hw' => by go_simp)
          refine Hs.take (v := .int .i64 q.m.dst) 6 38 rfl ?_ (fun w' hw' => by have hc := (K5.out.touch hw' KG.out).msg.2.2.1; go_simp)
          refine Hs.take (v := .slice (some ⟨g5, 0, none⟩) (PMsg.enc q.m).length c5) 7 39 rfl ?_ (fun _ _ => rfl)
          refine Hs.take (v := .agg #[.int .i64 q.m.dst, .slice (some ⟨g5, 0, none⟩) (PMsg.enc q.m).length c5]) 8 40 rfl ?_ (fun w' hw' => run_buildP rfl rfl)
          refine Hs.two 4 9 ?_ ?_
          · refine Hs.pick 4 (some 36) rfl ?_
            refine wpList_runTo' rfl (.slice A1 Q1.length c1) _ (run_loadP (HB5.out.cell (i := 0) rfl) rfl) ?_
            refine Hs.next (Touch.refl _ _) ?_
            refine Hs.only 9 (some 41) rfl ?_
            refine wpList_buildP rfl (.tmp 40) rfl ⟨q.m, some ⟨g5, 0, none⟩, c5⟩ rfl ?_
            refine Hs.next (.of_below BA.out) ?_ (by simp only [Act.put, List.setIfInBounds_toArray, List.set_cons_succ, List.set_cons_zero]; rfl)
            refine Hs.only 10 (some 42) rfl ?_
            refine wpList_app2 rfl (.tmp 36) (.tmp 41) 46 rfl 0 55 _ 2 32 Tryd.underlying46 pk_info rfl (by omega) A1 Q1.length c1 (pks Q1) rfl HOA.out _ _ 1 1 (pcs ⟨q.m, some ⟨g5, 0, none⟩, c5⟩) rfl HNW.out (pcs_oneCell _) (by have := HR.out; unfold maxLen; omega) (by have := HR.out; omega) (Nat.zero_le _) ?_
            intro A2 c2 w6 O6 g6 h6
            refine Hs.next ((Touch.of_bk g6).wide (fun k hk => List.mem_cons_of_mem _ hk)) ?_ (by simp only [Act.put, List.setIfInBounds_toArray, List.set_cons_succ, List.set_cons_zero]; rfl)
            have K6 : Blk w6 g 48 [.slice A1 Q1.length c1] := HBA.out.touch (Touch.of_bk g6) (fun hm => HG.out (mem_bl.1 hm))
            have W6 := Lib.hid (Nt.app (q := ⟨q.m, some ⟨g5, 0, none⟩, c5⟩) BW.out HBA.out HOA.out HQA.out OA.out HR.out g6 h6 O6)
            clear O6 h6
            refine Hs.take (v := .pointer (some ⟨g, 0, none⟩)) 11 43 rfl ?_ (fun _ _ => rfl)
            refine Hs.take (v := .pointer (some ⟨g, 0, none⟩)) 12 44 rfl ?_ (fun w' hw' => by go_simp)
            refine Hs.only 13 none rfl ?_
            refine wpList_skipN rfl rfl _ (run_storeP (K6.cell (i := 0) rfl) (K6.free 0) rfl rfl) ?_
            refine Hs.next ((Touch.of_grown (grown_set w6 g 0 _)).wide (by simp)) ?_ rfl
            refine Hs.done ?_
            clear K6 g6
            (try simp only [Exit.inBlock, Exit.then])
            go_wp2_with fail
            go_roundw
            case rel => exact ⟨i + 1, by go_num, by omega, Lib.hid (by rw [HS.out, HP.out, E1.out]; exact NtW.trans HF1.out TW.out W6.out)⟩
            case measure => simp [intOf]; omega
          · refine Hs.pick 9 (some 41) rfl ?_
            refine wpList_buildP rfl (.tmp 40) rfl ⟨q.m, some ⟨g5, 0, none⟩, c5⟩ rfl ?_
            refine Hs.next (.of_below BA.out) ?_ (by simp only [Act.put, List.setIfInBounds_toArray, List.set_cons_succ, List.set_cons_zero]; rfl)
            refine Hs.only 4 (some 36) rfl ?_
            refine wpList_runTo' rfl (.slice A1 Q1.length c1) _ (run_loadP (HBA.out.cell (i := 0) rfl) rfl) ?_
            refine Hs.next (Touch.refl _ _) ?_
            refine Hs.only 10 (some 42) rfl ?_
            refine wpList_app2 rfl (.tmp 36) (.tmp 41) 46 rfl 0 55 _ 2 32 Tryd.underlying46 pk_info rfl (by omega) A1 Q1.length c1 (pks Q1) rfl HOA.out _ _ 1 1 (pcs ⟨q.m, some ⟨g5, 0, none⟩, c5⟩) rfl HNW.out (pcs_oneCell _) (by have := HR.out; unfold maxLen; omega) (by have := HR.out; omega) (Nat.zero_le _) ?_
            intro A2 c2 w6 O6 g6 h6
            refine Hs.next ((Touch.of_bk g6).wide (fun k hk => List.mem_cons_of_mem _ hk)) ?_ (by simp only [Act.put, List.setIfInBounds_toArray, List.set_cons_succ, List.set_cons_zero]; rfl)
            have K6 : Blk w6 g 48 [.slice A1 Q1.length c1] := HBA.out.touch (Touch.of_bk g6) (fun hm => HG.out (mem_bl.1 hm))
            have W6 := Lib.hid (Nt.app (q := ⟨q.m, some ⟨g5, 0, none⟩, c5⟩) BW.out HBA.out HOA.out HQA.out OA.out HR.out g6 h6 O6)
            clear O6 h6
            refine Hs.take (v := .pointer (some ⟨g, 0, none⟩)) 11 43 rfl ?_ (fun _ _ => rfl)
            refine Hs.take (v := .pointer (some ⟨g, 0, none⟩)) 12 44 rfl ?_ (fun w' hw' => by go_simp)
            refine Hs.only 13 none rfl ?_
            refine wpList_skipN rfl rfl _ (run_storeP (K6.cell (i := 0) rfl) (K6.free 0) rfl rfl) ?_
            refine Hs.next ((Touch.of_grown (grown_set w6 g 0 _)).wide (by simp)) ?_ rfl
            refine Hs.done ?_
            clear K6 g6
            (try simp only [Exit.inBlock, Exit.then])
            go_wp2_with fail
            go_roundw
            case rel => exact ⟨i + 1, by go_num, by omega, Lib.hid (by rw [HS.out, HP.out, E1.out]; exact NtW.trans HF1.out TW.out W6.out)⟩
            case measure => simp [intOf]; omega
    · obtain rfl : i = Q.length := by omega
      have hgr : L.length ≤ Q1.length := by rw [← EL.out]; exact PNet.send_grow
      have HA := Lib.hid (show (Q.map Mp.m).take Q.length = Q.map Mp.m from List.take_of_length_le (by simp))
      have k0 := HB.out.cell (i := 0) rfl
      have hq400 : (Q1.length : Int) ≤ 400 := by omega
      go_wp2_with fail
      go_ret
      have e1 := EL.out
      have W2 := W.out
      rw [HA.out] at e1 W2
      exact ⟨by rw [e1]; rfl, W2⟩
end Go.Proofs.YtkckibcfanaglaaDoor

