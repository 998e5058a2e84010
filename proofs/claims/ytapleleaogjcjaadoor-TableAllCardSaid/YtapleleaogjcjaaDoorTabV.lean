/- Contract of the document's Do. Made by program (gen15v.py). -/
import Derived.Test.YtapleleaogjcjaaDoorTabR
import Derived.Test.YtapleleaogjcjaaDoorEntB
import Derived.Test.YtapleleaogjcjaaDoorEntZ
import Derived.Laws.Cover1
namespace Go.Proofs.YtapleleaogjcjaaDoor
open Go.RowKit PTab

theorem pcs_cells (p : Pr) : ∀ u ∈ pcs p, u.oneCell' = true := by
  intro u hu
  simp [pcs] at hu; rcases hu with rfl | rfl <;> rfl
section
variable {L acc X : List Pr} {a b : ByteArray} {i : Nat} {p : Pr}
theorem drop_at (hp : L[i]? = some p) : L.drop i = p :: L.drop (i + 1) := by
  obtain ⟨hi, rfl⟩ := List.getElem?_eq_some_iff.1 hp
  exact List.drop_eq_getElem_cons hi
theorem step_skip (hp : L[i]? = some p) (hq : eqb p.1 a = true) (h : acc ++ ins a b (L.drop i) true = X) : acc ++ ins a b (L.drop (i + 1)) true = X := by
  rw [drop_at hp] at h; simpa [ins, hq] using h
theorem step_keep (hp : L[i]? = some p) (hq : eqb p.1 a = false) (h : acc ++ ins a b (L.drop i) true = X) : (acc ++ [p]) ++ ins a b (L.drop (i + 1)) true = X := by
  rw [drop_at hp] at h; simpa [ins, hq] using h
theorem step_put (hp : L[i]? = some p) (hl : lt p.1 a = false) (hq : eqb p.1 a = true) (h : acc ++ ins a b (L.drop i) false = X) : (acc ++ [(a, b)]) ++ ins a b (L.drop (i + 1)) true = X := by
  rw [drop_at hp] at h; simpa [ins, hl, hq] using h
theorem step_both (hp : L[i]? = some p) (hl : lt p.1 a = false) (hq : eqb p.1 a = false) (h : acc ++ ins a b (L.drop i) false = X) : (acc ++ [(a, b)] ++ [p]) ++ ins a b (L.drop (i + 1)) true = X := by
  rw [drop_at hp] at h; simpa [ins, hl, hq] using h
theorem step_on (hp : L[i]? = some p) (hl : lt p.1 a = true) (h : acc ++ ins a b (L.drop i) false = X) : (acc ++ [p]) ++ ins a b (L.drop (i + 1)) false = X := by
  rw [drop_at hp] at h; simpa [ins, hl, lt_ne hl] using h
end
/-- The new list is stored. -/
theorem Rt.stored {w w3 : World} {g : Nat} {F : List Nat} {v : Value} {A : Option Addr} {c m : Nat} {L : List Pr} (hB : Blk w g 29 [v]) (hF : g ∈ F) (hb : Below w.heap.size w w3) (hm : L.length = m)
    (ho : w3.ownsRow w.heap.size 42 2 (.slice A m c) m (prs L)) : RW w (w3.setCell ⟨g, 0, none⟩ (.slice A m c)) g F L := by
  subst hm
  have hs := Touch.of_grown (grown_set w3 g 0 (.slice A L.length c))
  have hB3 := hB.past hb
  have hO := Ow.of_own ho
  have hne : bk A ≠ some g := fun h => by have := hO.low g h; have := hB.lt; omega
  refine ⟨⟨g :: bl A, ⟨⟨A, c, ?_, (hO.touch hs (by simpa using hne)).down (Nat.zero_le _), rfl⟩⟩, fun k hk => ?_⟩, (Touch.of_below hb).trans (hs.wide (by simpa using hF))⟩
  · have := hB3.set 0 (.slice A L.length c)
    simpa using this
  · rcases List.mem_cons.1 hk with rfl | hk
    · exact .inl hF
    · exact .inr (hO.low k (mem_bl.1 hk))

set_option maxHeartbeats 8000000 in
set_option maxRecDepth 100000 in
theorem rDo_c (w : World) (g : Nat) (F : List Nat) (L : List Pr) (h : Rt w g F L) (hL : L.length ≤ 1000000) (e : Ent) (hd : e.data.size ≤ 1000000) :
    Calls Tryd.prog 12 #[.pointer (some ⟨g, 0, none⟩), ev e] w fun x w' => x = .returned (.bool (did e)) ∧ RW w w' g F (doo L e) := by
  have B0 := Lib.hid ((Below.refl w.heap.size w).alloc (Nat.le_refl _) (.cells #[.int .i64 e.fr, .int .i64 e.boot, .int .i64 e.seq, .int .i64 e.ord, .int .i64 e.lev, .int .i64 e.stamp, .string e.data] 32))
  have K0 := Lib.hid (Blk.newEnt w 32 e)
  have S0 := Lib.hid h
  have HD := Lib.hid hd
  clear h hd
  cases hw : word e.data with
  | none =>
    have HV := Lib.hid (wordV_none hw)
    have HDid := Lib.hid (show did e = false by unfold did; rw [hw]; rfl)
    have HDoo := Lib.hid (show doo L e = L by unfold doo; rw [hw])
    clear hw
    show Calls _ _ #[_, .agg #[.int .i64 e.fr, .int .i64 e.boot, .int .i64 e.seq, .int .i64 e.ord, .int .i64 e.lev, .int .i64 e.stamp, .string e.data]] _ _
    go_enter Tryd.func12, Tryd.ntmps12
    go_wp2_with fail
    generalize (w.alloc (.cells #[.int .i64 e.fr, .int .i64 e.boot, .int .i64 e.seq, .int .i64 e.ord, .int .i64 e.lev, .int .i64 e.stamp, .string e.data] 32)) = w1 at *
    refine (rWord_c e.data w1 HD.out).mono ?_
    rw [HV.out]
    rintro x w2 ⟨rfl, b2⟩
    have B2 := Lib.hid (B0.out.trans (b2.mono B0.out.size))
    have K2 := Lib.hid (K0.out.past b2)
    clear b2
    go_wp2_with fail
    go_ret
    exact ⟨by rw [HDid.out]; rfl, by rw [HDoo.out]; exact RW.same S0.out B2.out⟩
  | some p =>
    obtain ⟨a, b⟩ := p
    have HV := Lib.hid (wordV_some hw)
    cases hm : PEnt.may e
    · have HDid := Lib.hid (show did e = false by unfold did; rw [hw, hm]; rfl)
      have HDoo := Lib.hid (show doo L e = L by unfold doo; rw [hw, hm]; rfl)
      have HM0 := Lib.hid hm
      clear hw hm
      show Calls _ _ #[_, .agg #[.int .i64 e.fr, .int .i64 e.boot, .int .i64 e.seq, .int .i64 e.ord, .int .i64 e.lev, .int .i64 e.stamp, .string e.data]] _ _
      go_enter Tryd.func12, Tryd.ntmps12
      go_wp2_with fail
      generalize (w.alloc (.cells #[.int .i64 e.fr, .int .i64 e.boot, .int .i64 e.seq, .int .i64 e.ord, .int .i64 e.lev, .int .i64 e.stamp, .string e.data] 32)) = w1 at *
      refine (rWord_c e.data w1 HD.out).mono ?_
      rw [HV.out]
      rintro x w2 ⟨rfl, b2⟩
      have B2 := Lib.hid (B0.out.trans (b2.mono B0.out.size))
      have K2 := Lib.hid (K0.out.past b2)
      clear b2
      have e0 := K2.out.cell (i := 0) rfl
      have e1 := K2.out.cell (i := 1) rfl
      have e2 := K2.out.cell (i := 2) rfl
      have e3 := K2.out.cell (i := 3) rfl
      have e4 := K2.out.cell (i := 4) rfl
      have e5 := K2.out.cell (i := 5) rfl
      have e6 := K2.out.cell (i := 6) rfl
      go_wp2_with fail
      clear e0 e1 e2 e3 e4 e5 e6
      refine (show Calls Tryd.prog _ #[.agg #[.int .i64 e.fr, .int .i64 e.boot, .int .i64 e.seq, .int .i64 e.ord, .int .i64 e.lev, .int .i64 e.stamp, .string e.data]] w2 _ from rMay_c w2 e).mono ?_
      rw [HM0.out]
      rintro x w3 ⟨rfl, b3⟩
      have B3 := Lib.hid (B2.out.trans (b3.mono B2.out.size))
      clear b3
      go_wp2_with fail
      go_ret
      exact ⟨by rw [HDid.out]; rfl, by rw [HDoo.out]; exact RW.same S0.out B3.out⟩
    · have HDid := Lib.hid (show did e = true by unfold did; rw [hw, hm]; rfl)
      have HM0 := Lib.hid hm
      have HBN := Lib.hid (toList_nil_iff b)
      have HDoo0 := Lib.hid (show doo L e = ins a b L (decide (b.size = 0)) by unfold doo; rw [hw]; simp only [hm, if_true])
      obtain ⟨d0, hd0⟩ : ∃ d0, decide (b.size = 0) = d0 := ⟨_, rfl⟩
      have HDoo := Lib.hid (show doo L e = ins a b L d0 by rw [HDoo0.out, hd0])
      have hbn : (b.toList == []) = d0 := by rw [HBN.out]; exact hd0
      clear hw hm hd0 HDoo0 HBN
      show Calls _ _ #[_, .agg #[.int .i64 e.fr, .int .i64 e.boot, .int .i64 e.seq, .int .i64 e.ord, .int .i64 e.lev, .int .i64 e.stamp, .string e.data]] _ _
      go_enter Tryd.func12, Tryd.ntmps12
      go_wp2_with fail
      generalize (w.alloc (.cells #[.int .i64 e.fr, .int .i64 e.boot, .int .i64 e.seq, .int .i64 e.ord, .int .i64 e.lev, .int .i64 e.stamp, .string e.data] 32)) = w1 at *
      refine (rWord_c e.data w1 HD.out).mono ?_
      rw [HV.out]
      rintro x w2 ⟨rfl, b2⟩
      have B2 := Lib.hid (B0.out.trans (b2.mono B0.out.size))
      have K2 := Lib.hid (K0.out.past b2)
      clear b2
      have e0 := K2.out.cell (i := 0) rfl
      have e1 := K2.out.cell (i := 1) rfl
      have e2 := K2.out.cell (i := 2) rfl
      have e3 := K2.out.cell (i := 3) rfl
      have e4 := K2.out.cell (i := 4) rfl
      have e5 := K2.out.cell (i := 5) rfl
      have e6 := K2.out.cell (i := 6) rfl
      go_wp2_with fail
      clear e0 e1 e2 e3 e4 e5 e6
      refine (show Calls Tryd.prog _ #[.agg #[.int .i64 e.fr, .int .i64 e.boot, .int .i64 e.seq, .int .i64 e.ord, .int .i64 e.lev, .int .i64 e.stamp, .string e.data]] w2 _ from rMay_c w2 e).mono ?_
      rw [HM0.out]
      rintro x w3 ⟨rfl, b3⟩
      have B3 := Lib.hid (B2.out.trans (b3.mono B2.out.size))
      clear b3 K2 B2 K0 B0
      obtain ⟨A, c, hB, hO, hF⟩ := S0.out.ex
      have HF := Lib.hid (show g ∈ F by rw [hF]; exact List.mem_cons_self ..)
      have HB := Lib.hid hB
      have R0 := Lib.hid hO.rd
      have LG := Lib.hid hB.lt
      have D0 := Lib.hid (hB.cell (i := 0) rfl)
      clear hB hO hF
      obtain ⟨n, hn⟩ : ∃ n, L.length = n := ⟨_, rfl⟩
      rw [hn] at R0 D0 HB hL
      have HL := Lib.hid hn
      clear hn S0
      go_wp2_with fail
      clear hbn
      go_loopw [8, 9, 10] (fun s8 s9 s10 wr => ∃ (i m c' : Nat) (A' : Option Addr) (d : Bool) (acc : List Pr), i ≤ n ∧ m ≤ 2 * i ∧ s10 = .int .i64 i ∧ s8 = .slice A' m c' ∧ s9 = .bool d ∧ Hid (acc.length = m) ∧
          Hid (wr.ownsRow w.heap.size 42 2 (.slice A' m c') m (prs acc)) ∧ Hid (acc ++ ins a b (L.drop i) d = ins a b L d0) ∧ Hid (Below w.heap.size w wr))
        (fun _ _ s10 _ => n - (intOf s10).toNat)
      case atStart => exact ⟨0, 0, 0, none, d0, [], by omega, by omega, rfl, rfl, rfl, Lib.hid rfl, Lib.hid (World.ownsRow_nil _ _ _ _), Lib.hid (by rw [List.drop_zero, List.nil_append]), B3⟩
      case round =>
        obtain ⟨i, m, c1, A1, d, acc, hi, hm, rfl, rfl, rfl, HM, O, HE, BL⟩ := hrel
        by_cases hlt : i < n
        · obtain ⟨b0, o0, p, rfl, hb, hp, c1', c2'⟩ := R0.out.pr hlt
          have HP := Lib.hid hp
          have LB := Lib.hid hb
          have D1 := Lib.hid c1'
          have D2 := Lib.hid c2'
          clear hb hp c1' c2'
          cases d
          · cases hl : lt p.1 a
            · cases hq : eqb p.1 a
              · as_aux_lemma =>
                have hl' : Op.bytesLess p.1.toList a.toList = false := hl
                have hq' : (p.1.toList == a.toList) = false := hq
                have HI := Lib.hid (step_both HP.out hl hq HE.out)
                clear hq HP HE hl
                have d0 := (BL.out.cell (p := ⟨g, 0, none⟩) LG.out).trans D0.out
                have d1 := (BL.out.cell (p := ⟨b0, o0 + i * 2, none⟩) LB.out).trans D1.out
                have d2 := (BL.out.cell (p := ⟨b0, o0 + i * 2 + 1, none⟩) LB.out).trans D2.out
                have bel3 := (Below.refl wr.heap.size wr).alloc (Nat.le_refl _) (.cells #[.string a, .string b] 42)
                have N3 := Rd.new wr #[.string a, .string b] 42 2 1 rfl (by unfold maxLen; omega)
                have Q3 := Lib.hid (own_below O.out bel3)
                have V3 := Lib.hid (BL.out.trans (bel3.mono BL.out.size))
                go_wp2_with (at_builtin; refine wpList_app rfl (.tmp 50) (.tmp 54) 27 rfl w.heap.size 42 _ 2 32 Tryd.underlying27 pair_info rfl (by omega) _ m (prs acc) rfl Q3.out _ _ 1 1 (pcs (a, b)) rfl N3 (pcs_cells _) ?d1 ?d2 V3.out.size ?_)
                case d1 => unfold maxLen; omega
                case d2 => omega
                intro A3 c3 w3 o3 g3 b3
                have B3 := Lib.hid (V3.out.trans b3)
                have O3 := Lib.hid (show w3.ownsRow w.heap.size 42 2 (.slice A3 (m + 1) c3) (m + 1) (prs (acc ++ [(a, b)])) by rw [prs_append, prs_one]; exact o3)
                clear o3 g3 b3 bel3 N3 Q3 V3
                clear d0 d1 d2
                have dn0 := (B3.out.cell (p := ⟨g, 0, none⟩) LG.out).trans D0.out
                have dn1 := (B3.out.cell (p := ⟨b0, o0 + i * 2, none⟩) LB.out).trans D1.out
                have dn2 := (B3.out.cell (p := ⟨b0, o0 + i * 2 + 1, none⟩) LB.out).trans D2.out
                have bel4 := (Below.refl w3.heap.size w3).alloc (Nat.le_refl _) (.cells #[.string p.1, .string p.2] 42)
                have N4 := Rd.new w3 #[.string p.1, .string p.2] 42 2 1 rfl (by unfold maxLen; omega)
                have Q4 := Lib.hid (own_below O3.out bel4)
                have V4 := Lib.hid (B3.out.trans (bel4.mono B3.out.size))
                go_wp2_with (at_builtin; refine wpList_app rfl (.tmp 66) (.tmp 74) 27 rfl w.heap.size 42 _ 2 32 Tryd.underlying27 pair_info rfl (by omega) _ (m + 1) (prs (acc ++ [(a, b)])) rfl Q4.out _ _ 1 1 (pcs (p.1, p.2)) rfl N4 (pcs_cells _) ?d1 ?d2 V4.out.size ?_)
                case d1 => unfold maxLen; omega
                case d2 => omega
                intro A4 c4 w4 o4 g4 b4
                have B4 := Lib.hid (V4.out.trans b4)
                have O4 := Lib.hid (show w4.ownsRow w.heap.size 42 2 (.slice A4 ((m + 1) + 1) c4) ((m + 1) + 1) (prs ((acc ++ [(a, b)]) ++ [p])) by rw [prs_append, prs_one]; exact o4)
                clear o4 g4 b4 bel4 N4 Q4 V4
                go_wp2_with fail
                go_roundw
                case rel => exact ⟨i + 1, (m + 1 + 1), c4, A4, true, (acc ++ [(a, b)] ++ [p]), by omega, by omega, by go_num, rfl, rfl, Lib.hid (by simp [HM.out]), O4, HI, B4⟩
                case measure => simp [intOf]; omega
              · as_aux_lemma =>
                have hl' : Op.bytesLess p.1.toList a.toList = false := hl
                have hq' : (p.1.toList == a.toList) = true := hq
                have HI := Lib.hid (step_put HP.out hl hq HE.out)
                clear hq HP HE hl
                have d0 := (BL.out.cell (p := ⟨g, 0, none⟩) LG.out).trans D0.out
                have d1 := (BL.out.cell (p := ⟨b0, o0 + i * 2, none⟩) LB.out).trans D1.out
                have d2 := (BL.out.cell (p := ⟨b0, o0 + i * 2 + 1, none⟩) LB.out).trans D2.out
                have bel3 := (Below.refl wr.heap.size wr).alloc (Nat.le_refl _) (.cells #[.string a, .string b] 42)
                have N3 := Rd.new wr #[.string a, .string b] 42 2 1 rfl (by unfold maxLen; omega)
                have Q3 := Lib.hid (own_below O.out bel3)
                have V3 := Lib.hid (BL.out.trans (bel3.mono BL.out.size))
                go_wp2_with (at_builtin; refine wpList_app rfl (.tmp 50) (.tmp 54) 27 rfl w.heap.size 42 _ 2 32 Tryd.underlying27 pair_info rfl (by omega) _ m (prs acc) rfl Q3.out _ _ 1 1 (pcs (a, b)) rfl N3 (pcs_cells _) ?d1 ?d2 V3.out.size ?_)
                case d1 => unfold maxLen; omega
                case d2 => omega
                intro A3 c3 w3 o3 g3 b3
                have B3 := Lib.hid (V3.out.trans b3)
                have O3 := Lib.hid (show w3.ownsRow w.heap.size 42 2 (.slice A3 (m + 1) c3) (m + 1) (prs (acc ++ [(a, b)])) by rw [prs_append, prs_one]; exact o3)
                clear o3 g3 b3 bel3 N3 Q3 V3
                clear d0 d1 d2
                have dn0 := (B3.out.cell (p := ⟨g, 0, none⟩) LG.out).trans D0.out
                have dn1 := (B3.out.cell (p := ⟨b0, o0 + i * 2, none⟩) LB.out).trans D1.out
                have dn2 := (B3.out.cell (p := ⟨b0, o0 + i * 2 + 1, none⟩) LB.out).trans D2.out
                go_wp2_with fail
                go_roundw
                case rel => exact ⟨i + 1, (m + 1), c3, A3, true, (acc ++ [(a, b)]), by omega, by omega, by go_num, rfl, rfl, Lib.hid (by simp [HM.out]), O3, HI, B3⟩
                case measure => simp [intOf]; omega
            · have hq := lt_ne hl
              as_aux_lemma =>
                have hl' : Op.bytesLess p.1.toList a.toList = true := hl
                have hq' : (p.1.toList == a.toList) = false := hq
                have HI := Lib.hid (step_on HP.out hl HE.out)
                clear hq HP HE hl
                have d0 := (BL.out.cell (p := ⟨g, 0, none⟩) LG.out).trans D0.out
                have d1 := (BL.out.cell (p := ⟨b0, o0 + i * 2, none⟩) LB.out).trans D1.out
                have d2 := (BL.out.cell (p := ⟨b0, o0 + i * 2 + 1, none⟩) LB.out).trans D2.out
                have bel3 := (Below.refl wr.heap.size wr).alloc (Nat.le_refl _) (.cells #[.string p.1, .string p.2] 42)
                have N3 := Rd.new wr #[.string p.1, .string p.2] 42 2 1 rfl (by unfold maxLen; omega)
                have Q3 := Lib.hid (own_below O.out bel3)
                have V3 := Lib.hid (BL.out.trans (bel3.mono BL.out.size))
                go_wp2_with (at_builtin; refine wpList_app rfl (.tmp 66) (.tmp 74) 27 rfl w.heap.size 42 _ 2 32 Tryd.underlying27 pair_info rfl (by omega) _ m (prs acc) rfl Q3.out _ _ 1 1 (pcs (p.1, p.2)) rfl N3 (pcs_cells _) ?d1 ?d2 V3.out.size ?_)
                case d1 => unfold maxLen; omega
                case d2 => omega
                intro A3 c3 w3 o3 g3 b3
                have B3 := Lib.hid (V3.out.trans b3)
                have O3 := Lib.hid (show w3.ownsRow w.heap.size 42 2 (.slice A3 (m + 1) c3) (m + 1) (prs (acc ++ [p])) by rw [prs_append, prs_one]; exact o3)
                clear o3 g3 b3 bel3 N3 Q3 V3
                go_wp2_with fail
                go_roundw
                case rel => exact ⟨i + 1, (m + 1), c3, A3, false, (acc ++ [p]), by omega, by omega, by go_num, rfl, rfl, Lib.hid (by simp [HM.out]), O3, HI, B3⟩
                case measure => simp [intOf]; omega
          · cases hq : eqb p.1 a
            · as_aux_lemma =>
              have hq' : (p.1.toList == a.toList) = false := hq
              have HI := Lib.hid (step_keep HP.out hq HE.out)
              clear hq HP HE
              have d0 := (BL.out.cell (p := ⟨g, 0, none⟩) LG.out).trans D0.out
              have d1 := (BL.out.cell (p := ⟨b0, o0 + i * 2, none⟩) LB.out).trans D1.out
              have d2 := (BL.out.cell (p := ⟨b0, o0 + i * 2 + 1, none⟩) LB.out).trans D2.out
              have bel3 := (Below.refl wr.heap.size wr).alloc (Nat.le_refl _) (.cells #[.string p.1, .string p.2] 42)
              have N3 := Rd.new wr #[.string p.1, .string p.2] 42 2 1 rfl (by unfold maxLen; omega)
              have Q3 := Lib.hid (own_below O.out bel3)
              have V3 := Lib.hid (BL.out.trans (bel3.mono BL.out.size))
              go_wp2_with (at_builtin; refine wpList_app rfl (.tmp 66) (.tmp 74) 27 rfl w.heap.size 42 _ 2 32 Tryd.underlying27 pair_info rfl (by omega) _ m (prs acc) rfl Q3.out _ _ 1 1 (pcs (p.1, p.2)) rfl N3 (pcs_cells _) ?d1 ?d2 V3.out.size ?_)
              case d1 => unfold maxLen; omega
              case d2 => omega
              intro A3 c3 w3 o3 g3 b3
              have B3 := Lib.hid (V3.out.trans b3)
              have O3 := Lib.hid (show w3.ownsRow w.heap.size 42 2 (.slice A3 (m + 1) c3) (m + 1) (prs (acc ++ [p])) by rw [prs_append, prs_one]; exact o3)
              clear o3 g3 b3 bel3 N3 Q3 V3
              go_wp2_with fail
              go_roundw
              case rel => exact ⟨i + 1, (m + 1), c3, A3, true, (acc ++ [p]), by omega, by omega, by go_num, rfl, rfl, Lib.hid (by simp [HM.out]), O3, HI, B3⟩
              case measure => simp [intOf]; omega
            · as_aux_lemma =>
              have hq' : (p.1.toList == a.toList) = true := hq
              have HI := Lib.hid (step_skip HP.out hq HE.out)
              clear hq HP HE
              have d0 := (BL.out.cell (p := ⟨g, 0, none⟩) LG.out).trans D0.out
              have d1 := (BL.out.cell (p := ⟨b0, o0 + i * 2, none⟩) LB.out).trans D1.out
              have d2 := (BL.out.cell (p := ⟨b0, o0 + i * 2 + 1, none⟩) LB.out).trans D2.out
              go_wp2_with fail
              go_roundw
              case rel => exact ⟨i + 1, m, c1, A1, true, acc, by omega, by omega, by go_num, rfl, rfl, Lib.hid (by simp [HM.out]), O, HI, BL⟩
              case measure => simp [intOf]; omega
        · obtain rfl : i = n := by omega
          have HE2 := HE.out
          rw [List.drop_eq_nil_of_le (by rw [HL.out]; exact Nat.le_refl _)] at HE2
          have d1 := (BL.out.cell (p := ⟨g, 0, none⟩) LG.out).trans D0.out
          cases d
          · have HX := Lib.hid (show acc ++ [(a, b)] = ins a b L d0 from HE2)
            clear HE2 HE
            have bel3 := (Below.refl wr.heap.size wr).alloc (Nat.le_refl _) (.cells #[.string a, .string b] 42)
            have N3 := Rd.new wr #[.string a, .string b] 42 2 1 rfl (by unfold maxLen; omega)
            have Q3 := Lib.hid (own_below O.out bel3)
            have V3 := Lib.hid (BL.out.trans (bel3.mono BL.out.size))
            go_wp2_with (at_builtin; refine wpList_app rfl (.tmp 78) (.tmp 82) 27 rfl w.heap.size 42 _ 2 32 Tryd.underlying27 pair_info rfl (by omega) _ m (prs acc) rfl Q3.out _ _ 1 1 (pcs (a, b)) rfl N3 (pcs_cells _) ?d1 ?d2 V3.out.size ?_)
            case d1 => unfold maxLen; omega
            case d2 => omega
            intro A3 c3 w3 o3 g3 b3
            have B3 := Lib.hid (V3.out.trans b3)
            have O3 := Lib.hid (show w3.ownsRow w.heap.size 42 2 (.slice A3 (m + 1) c3) (m + 1) (prs (acc ++ [(a, b)])) by rw [prs_append, prs_one]; exact o3)
            clear o3 g3 b3 bel3 N3 Q3 V3
            have B3' := B3
            have f1 := (HB.out.past B3'.out).free 0
            have d2 := (B3'.out.cell (p := ⟨g, 0, none⟩) LG.out).trans D0.out
            clear d1
            go_wp2_with fail
            go_ret
            exact ⟨by rw [HDid.out]; rfl, by rw [HDoo.out, ← HX.out]; exact Rt.stored HB.out HF.out B3'.out (by simp [HM.out]) O3.out⟩
          · have HX := Lib.hid (show acc = ins a b L d0 by rw [← HE2]; exact (List.append_nil _).symm)
            clear HE2 HE
            have f1 := (HB.out.past BL.out).free 0
            go_wp2_with fail
            go_ret
            exact ⟨by rw [HDid.out]; rfl, by rw [HDoo.out, ← HX.out]; exact Rt.stored HB.out HF.out BL.out HM.out O.out⟩
end Go.Proofs.YtapleleaogjcjaaDoor
