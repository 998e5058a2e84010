/- Contracts of numbersOf, encodeOne. -/
import Derived.Test.YtoflbgmmnljloaaEntA
import Derived.Test.YtoflbgmmnljloaaNumB
namespace Go.Proofs.Ytoflbgmmnljloaa
open Go.RowKit

/-- An entry's numbers, as an array by value. -/
def nv (e : Ent) : Value := .agg #[.int .i64 e.fr, .int .i64 e.boot, .int .i64 e.seq, .int .i64 e.ord, .int .i64 e.lev, .int .i64 e.stamp]

set_option maxRecDepth 100000 in
theorem numbersOf_c (w : World) (e : Ent) : Calls Try.prog 30 #[ev e] w fun x w' => x = .returned (nv e) ∧ Below w.heap.size w w' := by
  obtain ⟨fr, boot, seq, ord, lev, stamp, data⟩ := e
  show Calls _ _ #[.agg #[.int .i64 fr, .int .i64 boot, .int .i64 seq, .int .i64 ord, .int .i64 lev, .int .i64 stamp, .string data]] _ _
  go_enter Try.func30, Try.ntmps30
  go_wp2_with fail
  have K := Blk.new (w.alloc (.cells #[.int .i64 fr, .int .i64 boot, .int .i64 seq, .int .i64 ord, .int .i64 lev, .int .i64 stamp, .string data] 23)) #[.int .i64 fr, .int .i64 boot, .int .i64 seq, .int .i64 ord, .int .i64 lev, .int .i64 stamp] 50
  rw [show (w.alloc (.cells #[.int .i64 fr, .int .i64 boot, .int .i64 seq, .int .i64 ord, .int .i64 lev, .int .i64 stamp, .string data] 23)).heap.size = w.heap.size + 1 by simp] at K
  refine bodyPost_ret (v := nv ⟨fr, boot, seq, ord, lev, stamp, data⟩) (results_cell_row rfl _ _ (w.heap.size + 1) _ _ _ _ rfl K Try.underlying50 rfl (by kernel_rfl)) rfl ⟨rfl, ((Below.refl _ _).alloc (Nat.le_refl _) _).alloc (by simp) _⟩

/-- What is a later world's own is an elder one's own. -/
theorem own_from {w : World} {base b0 : Nat} {e : TypeId} {k n : Nat} {v : Value} {xs : List Value} (h : w.ownsRow base e k v n xs) (hb : b0 ≤ base) : w.ownsRow b0 e k v n xs := by
  refine ⟨h.1, ?_⟩
  rcases h.2 with h2 | ⟨g, cap, cur, h1, h2, h3⟩
  · exact .inl h2
  · exact .inr ⟨g, cap, cur, h1, Nat.le_trans hb h2, h3⟩

section
variable {P : Program}
theorem run_part1 {w : World} {e : TypeId} {cs : List Value} {i : Nat} {u : Value} (ha : (isAgg e).run P w = .ok false w) (hu : cs[i]? = some u) : (part e cs.toArray i).run P w = .ok u w := by
  unfold part
  simp [Sem.run_bind, ha, hu]
/-- 'a[i]' of an array by value, its elements of one cell. -/
theorem wpList_index1 {w : World} {ops : Array Oper} {rest : List Oper} {o : Oper} {a : Act} {Q : Exit → Act → World → Prop} (hgd : o.guard = none) (t : TypeId) (x ix : Operand) (ho : o.op = .index t x ix)
    (n : Nat) (e : TypeId) (ht : P.underlying t = some (.array n e)) (ha : ∀ w, (isAgg e).run P w = .ok false w) (hz : ∀ w, (sizeOf e).run P w = .ok 1 w)
    (cs : List Value) (hx : a.eval x = .agg cs.toArray) (i : Nat) (hi : a.eval ix = .int .i64 i) (hlt : i < n) (u : Value) (hu : cs[i]? = some u)
    (h : wpList P ops Q rest (a.put o.dst u) w) : wpList P ops Q (o :: rest) a w := by
  refine wpList_plain hgd fun K hK => ?_
  have hrun : (Instr.index t (.agg cs.toArray) (.int .i64 i)).run P w = .ok u w := by
    simp [Instr.index, Sem.run_bind, asIntOf, run_underlying ht, hlt, hz, run_part1 (ha w) hu]
  unfold Oper.wp execOp
  simp only [ho, hx, hi, Sem.run_bind, hrun, Result.andThen_ok, Sem.run_pure]
  exact hK _ _ h
end

theorem encN_snoc {l : List Int} {i : Nat} {x : Int} (h : l[i]? = some x) : PEnt.encN (l.take (i + 1)) = PEnt.encN (l.take i) ++ PNum.sev (PNum.zig x) := by
  obtain ⟨hi, he⟩ := List.getElem?_eq_some_iff.1 h
  rw [List.take_succ_eq_append_getElem hi, PEnt.encN_append, he]
  simp [PEnt.encN]

set_option maxRecDepth 100000 in
theorem encodeOne_c (w : World) (e : Ent) (hf : PEnt.Fit e) (hd : e.data.size ≤ 65536) : Calls Try.prog 26 #[ev e] w fun x w' => ∃ A' c', x = .returned (.slice A' (PEnt.encE e).length c') ∧
    w'.ownsRow w.heap.size 5 1 (.slice A' (PEnt.encE e).length c') (PEnt.encE e).length (bs (PEnt.encE e)) ∧ Below w.heap.size w w' := by
  have HF := Lib.hid hf
  have HNF := Lib.hid (PEnt.nums_fit hf)
  have HD := Lib.hid hd
  have HN := Lib.hid (show PEnt.nums e = [e.fr, e.boot, e.seq, e.ord, e.lev, e.stamp] from rfl)
  have HV := Lib.hid (show nv e = .agg ((PEnt.nums e).map (Value.int .i64)).toArray from rfl)
  have KN := Lib.hid (fun w => numbersOf_c w e)
  have HE := Lib.hid (show PEnt.encE e = PEnt.encN (PEnt.nums e) ++ (PNum.sev (PNum.zig e.data.size) ++ sb e.data) from rfl)
  have HL := Lib.hid (show (PEnt.nums e).length = 6 from rfl)
  generalize PEnt.nums e = N at *
  generalize PEnt.encE e = E at *
  clear hf hd
  obtain ⟨fr, boot, seq, ord, lev, stamp, data⟩ := e
  show Calls _ _ #[.agg #[.int .i64 fr, .int .i64 boot, .int .i64 seq, .int .i64 ord, .int .i64 lev, .int .i64 stamp, .string data]] _ _
  go_enter Try.func26, Try.ntmps26
  go_wp2_with fail
  have b0 := (Below.refl w.heap.size w).alloc (Nat.le_refl _) (.cells #[.int .i64 fr, .int .i64 boot, .int .i64 seq, .int .i64 ord, .int .i64 lev, .int .i64 stamp, .string data] 23)
  have k0 := Blk.newEnt w 23 ⟨fr, boot, seq, ord, lev, stamp, data⟩
  refine (KN.out _).mono ?_
  rw [HV.out]
  rintro e w1 ⟨rfl, b1⟩
  have B1 := Lib.hid (b0.trans (b1.mono b0.size))
  have K1 := Lib.hid (k0.past b1)
  clear k0 b0 b1 HV KN
  go_wp2_with fail
  go_loopw [3, 5, 8] (fun s3 _ s8 wr => ∃ (i m c : Nat) (A : Option Addr), i ≤ 6 ∧ m ≤ 10 * i ∧ s8 = .int .i64 i ∧ s3 = .slice A m c ∧ Hid (Rd wr wr.heap.size A c 1 m (bs (PEnt.encN (N.take i)))) ∧ Hid (Below w.heap.size w wr) ∧ Hid (Blk wr w.heap.size 23 (ecs ⟨fr, boot, seq, ord, lev, stamp, data⟩)))
    (fun _ _ s8 _ => 6 - (intOf s8).toNat)
  case atStart => exact ⟨0, 0, 0, none, by omega, by omega, rfl, rfl, Lib.hid (Rd.nil _ _ _), B1, K1⟩
  case round =>
    clear B1 K1
    obtain ⟨i, m, c, A, hi, hm, rfl, rfl, R, B, K⟩ := hrel
    by_cases hlt : i < 6
    · obtain ⟨x, hx⟩ : ∃ x, N[i]? = some x := ⟨_, List.getElem?_eq_getElem (by rw [HL.out]; exact hlt)⟩
      have hxf := HNF.out x (List.mem_of_getElem? hx)
      have HS := Lib.hid (encN_snoc hx)
      have HX := Lib.hid hx
      have ht := PNum.sev_ten (PNum.zig x) (PNum.zig_lt x hxf.1 hxf.2)
      have HT := Lib.hid ht
      have HFX := Lib.hid hxf
      clear hx ht hxf
      go_wp2_with (with_reducible show wpList _ _ _ ((⟨some 10, Op.index _ _ _, _, _, _, _⟩ : Oper) :: _) _ _
                   go_must (refine wpList_index1 rfl 50 (.tmp 7) (.tmp 8) rfl 6 2 Try.underlying50 Try.isAgg2 Try.sizeOf2 (N.map (Value.int .i64)) rfl i rfl hlt (.int .i64 x) (by rw [List.getElem?_map, HX.out]; rfl) ?_))
      refine (Put_c wr _ A c m _ x R.out (by omega) HFX.out.1 HFX.out.2).mono ?_
      rintro e w2 ⟨A2, c2, rfl, hown, b2⟩
      have R2 := Lib.hid (Rd.of_own hown)
      have B2 := Lib.hid (B.out.trans (b2.mono B.out.size))
      have K2 := Lib.hid (K.out.past b2)
      clear hown b2 R B K
      go_wp2_with fail
      go_roundw
      case rel => exact ⟨i + 1, _, c2, A2, by omega, by have := HT.out; omega, by go_num, rfl, Lib.hid (by rw [HS.out]; exact R2.out), B2, K2⟩
      case measure => simp [intOf]; omega
    · obtain rfl : i = 6 := by omega
      have hN : N.take 6 = N := List.take_of_length_le (by rw [HL.out]; omega)
      rw [hN] at R
      have hrl := Lib.hid R.out.blen
      obtain ⟨-, -, -, -, -, -, c6⟩ := K.out.ent
      clear hN K
      have hEl := Lib.hid (show E.length = m + (PNum.sev (PNum.zig data.size)).length + data.size by
        rw [HE.out, List.length_append, List.length_append, hrl.out, sb_length]; omega)
      go_wp2_with fail
      refine (PutText_c wr _ A c m _ data R.out (by omega) (by have := HD.out; omega)).mono ?_
      rintro e w2 ⟨A2, c2, rfl, hown, b2⟩
      have B2 := Lib.hid (B.out.trans (b2.mono B.out.size))
      have own2 := own_from hown B.out.size
      clear b2
      go_wp2_with fail
      go_ret
      refine ⟨A2, c2, ?_, ?_, B2.out⟩
      · rw [hEl.out]; rfl
      · rw [hEl.out]
        have e3 : PEnt.encN N ++ PNum.sev (PNum.zig data.size) ++ sb data = E := by rw [HE.out, List.append_assoc]
        rw [← e3]
        exact own2
end Go.Proofs.Ytoflbgmmnljloaa
