/- Contract of Do. -/
import Derived.Test.YtapleleaogjcjaaDoorTabP
import Derived.Test.YtapleleaogjcjaaDoorHeldT
namespace Go.Proofs.YtapleleaogjcjaaDoor
open Go.RowKit PTab

theorem word_size {s a b : ByteArray} (h : word s = some (a, b)) : a.size + b.size + 1 = s.size ∧ 0 < a.size := by
  unfold word at h
  split at h
  · next i he =>
    have := cut_facts he
    cases h
    simp only [ByteArray.size_extract]
    omega
  · cases h
theorem Mq.drop {w : World} {M : Value} {c : Nat} {L : List Pr} (h : Mq w M c L) (hs : Srt L) (a v : ByteArray) (ha : a.size ≤ maxLen) (ty : TypeId) : ∃ w', (Builtin.delete_ #[48, 9] ty #[M, .string a]).run Tryd.prog w = .ok (.tuple #[]) w' ∧ Mq w' M c (ins a v L true) ∧ Touch (ml M) w w' := by
  rcases h with ⟨rfl, rfl⟩ | ⟨b, rfl, h⟩
  · exact ⟨w, Maps.drop_nil lawK Tryd.underlying48 (keyOf_n ha) ty, .inl ⟨rfl, rfl⟩, Touch.refl _ _⟩
  · obtain ⟨w', h1, h2, h3⟩ := h.drop hs a v ha ty
    exact ⟨w', h1, .inr ⟨b, rfl, h2⟩, Touch.of_grown h3⟩
theorem wpList_dropT {w : World} {M : Value} {c : Nat} {L : List Pr} {ops : Array Oper} {rest : List Oper} {o : Oper} {s : Act} {Q : Exit → Act → World → Prop} (hg : o.guard = none) (m x : Operand) (hop : o.op = Op.call { callee := Callee.builtin Builtin.delete, args := #[m, x], argTypes := #[48, 9] })
    (h : Mq w M c L) (hs : Srt L) (a v : ByteArray) (ha : a.size ≤ maxLen) (hm : s.eval m = M) (hx : s.eval x = .string a)
    (hK : ∀ w', Mq w' M c (ins a v L true) → Touch (ml M) w w' → wpList Tryd.prog ops Q rest (s.put o.dst (.tuple #[])) w') : wpList Tryd.prog ops Q (o :: rest) s w := by
  refine wpList_plain hg fun K' hK' => ?_
  obtain ⟨w', hrun, r1, r2⟩ := h.drop hs a v ha o.type
  unfold Oper.wp
  simp [execOp, hop, resolve, invoke, builtin, hm, hx, hrun, Result.andThen]
  exact hK' _ _ (hK w' r1 r2)

theorem Tb.ne {w : World} {g k c : Nat} {F : List Nat} {L : List Pr} {e : TypeId} {xs : List Value} (h : Tb w g F c L) (hB : Blk w k e xs) (he : e ≠ 50) : k ∉ F := by
  obtain ⟨q, hG, hM, rfl⟩ := h.ex
  intro hk
  rcases List.mem_cons.1 hk with hk | hk
  · exact hB.ne hG he hk
  · exact hM.ne hB hk

set_option maxHeartbeats 2000000 in
set_option maxRecDepth 100000 in
theorem Do_c (w : World) (g : Nat) (F : List Nat) (c : Nat) (L : List Pr) (h : Tb w g F c L) (e : Ent) (hd : e.data.size ≤ 1000000) (hc : c < 1000000) :
    Calls Tryd.prog 11 #[.pointer (some ⟨g, 0, none⟩), ev e] w fun x w' => x = .returned (.bool (did e)) ∧ TW w w' g F (c + 1) (doo L e) := by
  have B0 := Lib.hid ((Below.refl w.heap.size w).alloc (Nat.le_refl _) (.cells #[.int .i64 e.fr, .int .i64 e.boot, .int .i64 e.seq, .int .i64 e.ord, .int .i64 e.lev, .int .i64 e.stamp, .string e.data] 32))
  have K0 := Lib.hid (Blk.newEnt w 32 e)
  have T0 := Lib.hid (h.past B0.out)
  have S0 := Lib.hid h
  have HC := Lib.hid hc
  have HD := Lib.hid hd
  clear h hc hd
  cases hw : word e.data with
  | none =>
    have HV := Lib.hid (wordV_none hw)
    have HDid := Lib.hid (show did e = false by unfold did; rw [hw]; rfl)
    have HDoo := Lib.hid (show doo L e = L by unfold doo; rw [hw])
    clear hw
    show Calls _ _ #[_, .agg #[.int .i64 e.fr, .int .i64 e.boot, .int .i64 e.seq, .int .i64 e.ord, .int .i64 e.lev, .int .i64 e.stamp, .string e.data]] _ _
    go_enter Tryd.func11, Tryd.ntmps11
    go_wp2_with fail
    generalize (w.alloc (.cells #[.int .i64 e.fr, .int .i64 e.boot, .int .i64 e.seq, .int .i64 e.ord, .int .i64 e.lev, .int .i64 e.stamp, .string e.data] 32)) = w1 at *
    refine (Word_c e.data w1 HD.out).mono ?_
    rw [HV.out]
    rintro x w2 ⟨rfl, b2⟩
    have B2 := Lib.hid (B0.out.trans (b2.mono B0.out.size))
    clear b2
    go_wp2_with fail
    go_ret
    exact ⟨by rw [HDid.out]; rfl, by rw [HDoo.out]; exact TW.same (S0.out.mono (by omega)) B2.out⟩
  | some p =>
    obtain ⟨a, b⟩ := p
    obtain ⟨hz1, hz2⟩ := word_size hw
    have HV := Lib.hid (wordV_some hw)
    cases hm : PEnt.may e
    · have HDid := Lib.hid (show did e = false by unfold did; rw [hw, hm]; rfl)
      have HDoo := Lib.hid (show doo L e = L by unfold doo; rw [hw, hm]; rfl)
      have HM := Lib.hid hm
      clear hw hm
      show Calls _ _ #[_, .agg #[.int .i64 e.fr, .int .i64 e.boot, .int .i64 e.seq, .int .i64 e.ord, .int .i64 e.lev, .int .i64 e.stamp, .string e.data]] _ _
      go_enter Tryd.func11, Tryd.ntmps11
      go_wp2_with fail
      generalize (w.alloc (.cells #[.int .i64 e.fr, .int .i64 e.boot, .int .i64 e.seq, .int .i64 e.ord, .int .i64 e.lev, .int .i64 e.stamp, .string e.data] 32)) = w1 at *
      refine (Word_c e.data w1 HD.out).mono ?_
      rw [HV.out]
      rintro x w2 ⟨rfl, b2⟩
      have B2 := Lib.hid (B0.out.trans (b2.mono B0.out.size))
      have K2 := Lib.hid (K0.out.past b2)
      clear b2
      have e0 := K2.out.cell (i := 0) rfl
      have e1 := K2.out.cell (i := 1) rfl
      have e2 := K2.out.cell (i := 2) rfl
      have e3 := K2.out.cell (i := 3) rfl
      have e4 := K2.out.cell (i := 4) rfl
      have e5 := K2.out.cell (i := 5) rfl
      have e6 := K2.out.cell (i := 6) rfl
      go_wp2_with fail
      clear e0 e1 e2 e3 e4 e5 e6
      refine (show Calls Tryd.prog _ #[.agg #[.int .i64 e.fr, .int .i64 e.boot, .int .i64 e.seq, .int .i64 e.ord, .int .i64 e.lev, .int .i64 e.stamp, .string e.data]] w2 _ from May_c w2 e).mono ?_
      rw [HM.out]
      rintro x w3 ⟨rfl, b3⟩
      have B3 := Lib.hid (B2.out.trans (b3.mono B2.out.size))
      clear b3
      go_wp2_with fail
      go_ret
      exact ⟨by rw [HDid.out]; rfl, by rw [HDoo.out]; exact TW.same (S0.out.mono (by omega)) B3.out⟩
    · have HDid := Lib.hid (show did e = true by unfold did; rw [hw, hm]; rfl)
      have HDoo := Lib.hid (show doo L e = ins a b L (decide (b.size = 0)) by unfold doo; rw [hw]; simp only [hm, if_true])
      have HM := Lib.hid hm
      have hsz := ((PEnt.may_iff e).1 hm).2.2.2.2.2.2
      have HZ := Lib.hid (show a.size + b.size ≤ 16 by omega)
      have HBN := Lib.hid (toList_nil_iff b)
      clear hw hm hz1 hz2
      show Calls _ _ #[_, .agg #[.int .i64 e.fr, .int .i64 e.boot, .int .i64 e.seq, .int .i64 e.ord, .int .i64 e.lev, .int .i64 e.stamp, .string e.data]] _ _
      go_enter Tryd.func11, Tryd.ntmps11
      go_wp2_with fail
      generalize (w.alloc (.cells #[.int .i64 e.fr, .int .i64 e.boot, .int .i64 e.seq, .int .i64 e.ord, .int .i64 e.lev, .int .i64 e.stamp, .string e.data] 32)) = w1 at *
      refine (Word_c e.data w1 HD.out).mono ?_
      rw [HV.out]
      rintro x w2 ⟨rfl, b2⟩
      have B2 := Lib.hid (B0.out.trans (b2.mono B0.out.size))
      have K2 := Lib.hid (K0.out.past b2)
      have T2 := Lib.hid (T0.out.past b2)
      clear b2
      have e0 := K2.out.cell (i := 0) rfl
      have e1 := K2.out.cell (i := 1) rfl
      have e2 := K2.out.cell (i := 2) rfl
      have e3 := K2.out.cell (i := 3) rfl
      have e4 := K2.out.cell (i := 4) rfl
      have e5 := K2.out.cell (i := 5) rfl
      have e6 := K2.out.cell (i := 6) rfl
      go_wp2_with fail
      clear e0 e1 e2 e3 e4 e5 e6
      refine (show Calls Tryd.prog _ #[.agg #[.int .i64 e.fr, .int .i64 e.boot, .int .i64 e.seq, .int .i64 e.ord, .int .i64 e.lev, .int .i64 e.stamp, .string e.data]] w2 _ from May_c w2 e).mono ?_
      rw [HM.out]
      rintro x w3 ⟨rfl, b3⟩
      have B3 := Lib.hid (B2.out.trans (b3.mono B2.out.size))
      have T3 := Lib.hid (T2.out.past b3)
      clear b3 T2 T0 K2 K0
      by_cases hb : b.size = 0
      · have hn : (b.toList == []) = true := by rw [HBN.out]; exact decide_eq_true hb
        have HD2 := Lib.hid (show decide (b.size = 0) = true from decide_eq_true hb)
        obtain ⟨q, hB, hM, hF⟩ := T3.out.ex
        have HF := Lib.hid hF
        have d0 := hB.cell (i := 0) rfl
        have HB := Lib.hid hB
        have HMq := Lib.hid hM
        clear hB hM hF hb
        go_wp2_with (at_delete; refine wpList_dropT rfl (.tmp 31) (.tmp 32) rfl HMq.out T3.out.ok.srt a b (by have := HZ.out; unfold maxLen; omega) rfl rfl ?_)
        intro w4 m4 t4
        go_wp2_with fail
        go_ret
        refine ⟨by rw [HDid.out]; rfl, ?_⟩
        rw [HDoo.out, HD2.out]
        refine ⟨⟨F, ⟨⟨q, HB.out.touch t4 (HMq.out.ne HB.out), m4.mono (by omega), HF.out⟩, ins_ok T3.out.ok HZ.out (fun h => by cases h)⟩, fun k hk => .inl hk⟩, ?_⟩
        exact (Touch.of_below B3.out).trans (t4.wide (fun k hk => by rw [HF.out]; exact List.mem_cons_of_mem _ hk))
      · have hn : (b.toList == []) = false := by rw [HBN.out]; exact decide_eq_false hb
        have HD2 := Lib.hid (show decide (b.size = 0) = false from decide_eq_false hb)
        go_wp2_with fail
        refine (put_c w3 g F c L T3.out a b HZ.out hb HC.out).mono ?_
        rintro x w4 ⟨rfl, t4⟩
        go_wp2_with fail
        go_ret
        exact ⟨by rw [HDid.out]; rfl, by rw [HDoo.out, HD2.out]; exact t4.behind B3.out⟩
theorem DoNil_c (w : World) (e : Ent) (hd : e.data.size ≤ 1000000) :
    Calls Tryd.prog 11 #[.pointer none, ev e] w fun x w' => x = .returned (.bool false) ∧ Below w.heap.size w w' := by
  have B0 := Lib.hid ((Below.refl w.heap.size w).alloc (Nat.le_refl _) (.cells #[.int .i64 e.fr, .int .i64 e.boot, .int .i64 e.seq, .int .i64 e.ord, .int .i64 e.lev, .int .i64 e.stamp, .string e.data] 32))
  obtain ⟨x, y, z, hV⟩ : ∃ x y z, wordV e.data = .tuple #[.string x, .string y, .bool z] := by
    unfold wordV; split <;> exact ⟨_, _, _, rfl⟩
  have HV := Lib.hid hV
  clear hV
  show Calls _ _ #[_, .agg #[.int .i64 e.fr, .int .i64 e.boot, .int .i64 e.seq, .int .i64 e.ord, .int .i64 e.lev, .int .i64 e.stamp, .string e.data]] _ _
  go_enter Tryd.func11, Tryd.ntmps11
  go_wp2_with fail
  refine (Word_c e.data _ hd).mono ?_
  rw [HV.out]
  rintro x w2 ⟨rfl, b2⟩
  have B2 := Lib.hid (B0.out.trans (b2.mono B0.out.size))
  clear b2
  go_wp2_with fail
  go_ret
  exact ⟨rfl, B2.out⟩
end Go.Proofs.YtapleleaogjcjaaDoor
