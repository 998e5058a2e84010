/- The walk of TableAll. Made by program (gen15d.py). -/
import Derived.Test.YtapleleaogjcjaaDoorTabY
import Derived.Test.YtapleleaogjcjaaDoorCut
import Derived.Test.YtapleleaogjcjaaDoorStrs
import Derived.Test.YtapleleaogjcjaaDoorLaid
namespace Go.Proofs.YtapleleaogjcjaaDoor
open Go.RowKit PTab

theorem below_touch {w0 w w' : World} (hb : Below w0.heap.size w0 w) (ht : Touch [] w w') {p : Addr} (hp : p.block < w0.heap.size) : w'.cell? p = w0.cell? p :=
  ((hb.trans (ht.below (by simp) hb.size)).cell hp)
def entA (i : Int) (s : ByteArray) : Ent := ⟨1, 1, i, 0, 0, 0, s⟩
theorem wordV_parts (s : ByteArray) (hs : s.size ≤ 20) : ∃ x y b, wordV s = .tuple #[.string x, .string y, .bool b] ∧ x.size ≤ maxLen := by
  unfold wordV
  cases hw : word s with
  | none => exact ⟨_, _, _, rfl, by unfold maxLen; decide⟩
  | some p =>
    have := word_size (a := p.1) (b := p.2) hw
    exact ⟨_, _, _, rfl, by unfold maxLen; omega⟩

set_option maxHeartbeats 8000000 in
set_option maxRecDepth 100000 in
theorem TableAll_w (w : World) (ht : Tab w) (A : Option Addr) (c n : Nat) (l : List ByteArray) (h : Rd w w.heap.size A c 1 n (sts l)) :
    Calls Tryd.prog 3 #[.slice A n c] w fun x w' => x = .returned (.bool true) ∧ Below w.heap.size w w' := by
  have HT := Lib.hid ht
  have R0 := Lib.hid h
  have hcap := h.cap
  have hle := h.le
  have hn : n ≤ 9223372036854775807 := by unfold maxLen at hcap; omega
  clear ht h hcap hle
  go_enter Tryd.func3, Tryd.ntmps3
  go_wp2_with fail
  refine (begun_c w HT.out).mono ?_
  rintro x w1 ⟨rfl, b1⟩
  have B1 := Lib.hid b1
  clear b1
  go_wp2_with fail
  refine (New_c w1).mono ?_
  rintro x w2 ⟨rfl, q2, b2⟩
  have b3 := (Below.refl w2.heap.size w2).alloc (Nat.le_refl _) (.cells #[.slice none 0 0] 29)
  have k3 := Blk.new w2 #[.slice none 0 0] 29
  have TA := Lib.hid (show Ta w (w2.alloc (.cells #[.slice none 0 0] 29)) w1.heap.size [w1.heap.size] 0 [] w2.heap.size [w2.heap.size] [] from
    ⟨(show Tx w w2 w1.heap.size [w1.heap.size] 0 [] from ⟨q2, fun k hk => by rw [List.mem_singleton.1 hk]; exact B1.out.size, B1.out.trans (b2.mono B1.out.size)⟩).past b3,
     ⟨⟨none, 0, k3, Ow.nil _ _ _ _, rfl⟩⟩, fun k hk => by rw [List.mem_singleton.1 hk]; exact Nat.le_trans B1.out.size b2.size, fun k hk hm => by
      rw [List.mem_singleton.1 hk] at hm
      have h1 := List.mem_singleton.1 hm
      have h2 := q2.hi _ (List.mem_singleton.2 rfl)
      omega⟩)
  clear q2 b2 b3 k3 B1
  go_wp2_with fail
  generalize (w2.alloc (.cells #[.slice none 0 0] 29)) = w3 at *
  generalize w1.heap.size = g at *
  generalize w2.heap.size = g2 at *
  go_loopw [6] (fun s6 wr => ∃ (i c' : Nat) (F F2 : List Nat) (L : List Pr), i ≤ n ∧ i ≤ 40 ∧ c' ≤ i ∧ s6 = .int .i64 i ∧ Hid (L.length ≤ i) ∧ Hid (Ta w wr g F c' L g2 F2 L))
    (fun s6 _ => n - (intOf s6).toNat)
  case atStart => exact ⟨0, 0, [g], [g2], [], by omega, by omega, by omega, rfl, Lib.hid (Nat.le_refl _), TA⟩
  case round =>
    obtain ⟨i, c0, F, F2, L, hi, hi40, hc0, rfl, HLen, SX⟩ := hrel
    clear TA
    have hch : (i < n ∧ i < 40) ∨ (i < n ∧ 40 ≤ i) ∨ n ≤ i := by omega
    rcases hch with ⟨hlt, hlt40⟩ | ⟨hlt, hge⟩ | hge
    · as_aux_lemma =>
          obtain ⟨b, of, s, rfl, hbb, -, hcell⟩ := (R0.out.past SX.out.tx.bel).str hlt
          go_wp2_with fail
          clear hcell hbb
          refine (Cut_c wr s 20 (by omega)).mono ?_
          rintro x wx ⟨d, rfl, hw, hd20, -⟩
          subst hw
          have HD20 := Lib.hid (show d.size ≤ 20 by omega)
          clear hd20
          obtain ⟨e, he⟩ : ∃ e, entA ((i : Int) + 1) d = e := ⟨_, rfl⟩
          have HE := Lib.hid he
          have HED := Lib.hid (show e.data = d by rw [← he]; rfl)
          have b4 := (Below.refl wr.heap.size wr).alloc (Nat.le_refl _) (.cells #[.int .i64 1, .int .i64 1, .int .i64 ((i : Int) + 1), .int .i64 0, .int .i64 0, .int .i64 0, .string d] 32)
          have k4 := Blk.newEnt wr 32 (entA ((i : Int) + 1) d)
          have S4 := Lib.hid (SX.out.past b4)
          have K4 := Lib.hid (show Blk (wr.alloc (.cells #[.int .i64 1, .int .i64 1, .int .i64 ((i : Int) + 1), .int .i64 0, .int .i64 0, .int .i64 0, .string d] 32)) wr.heap.size 32 (ecs e) by rw [← he]; exact k4)
          clear b4 k4 SX he
          go_wp2_with fail
          generalize (wr.alloc (.cells #[.int .i64 1, .int .i64 1, .int .i64 ((i : Int) + 1), .int .i64 0, .int .i64 0, .int .i64 0, .string d] 32)) = w4 at *
          generalize wr.heap.size = k7 at *
          have KD : Hid (Blk w4.drew k7 32 (ecs e)) := K4
          have SD := Lib.hid S4.out.drew
          have N1 := Lib.hid (SD.out.tx.tb.ne KD.out (by decide))
          have N2 := Lib.hid (SD.out.rt.ne KD.out (by decide) (by decide))
          have N12 := Lib.hid (show k7 ∉ F ++ F2 from fun hm => (List.mem_append.1 hm).elim N1.out N2.out)
          have HSZ := Lib.hid (show e.data.size ≤ 1000000 by rw [HED.out]; have := HD20.out; omega)
          clear K4 S4
          refine Hs.begin (F ++ F2) ?_
          refine Hs.take (v := .pointer (some ⟨g, 0, none⟩)) 0 44 rfl ?_ (fun _ _ => rfl)
          refine Hs.take (v := ev e) 1 45 rfl ?_ (fun w' hw' => run_loadE ((KD.out.touch hw' N12.out).range) rfl)
          refine Hs.take (v := .pointer (some ⟨g2, 0, none⟩)) 3 47 rfl ?_ (fun _ _ => rfl)
          refine Hs.take (v := ev e) 4 48 rfl ?_ (fun w' hw' => run_loadE ((KD.out.touch hw' N12.out).range) rfl)
          refine Hs.callW (f := 11) (args := #[.pointer (some ⟨g, 0, none⟩), ev e]) 2 46 rfl ?_ (run_callf Tryd.func11 (by kernel_rfl) (by kernel_rfl) (by simp only [List.map_toArray, List.map_cons, List.map_nil]; rfl))
          refine (SD.out.go1 e HSZ.out (by omega)).mono ?_
          rintro x w5 ⟨F5, rfl, s5, f5, t5⟩
          have S5 := Lib.hid s5
          have K5 := Lib.hid (KD.out.touch t5 N1.out)
          refine ⟨.bool (did e), _, F5 ++ F2, rfl, (by simp only [Act.put, List.setIfInBounds_toArray, List.set_cons_succ, List.set_cons_zero]; rfl), t5.wide (fun k hk => List.mem_append_left _ hk), fun k hk => ?_, ?_⟩
          · rcases List.mem_append.1 hk with q | q
            · exact (f5 k q).imp (fun h => List.mem_append_left _ h) id
            · exact .inl (List.mem_append_right _ q)
          clear s5 f5 t5 KD SD
          refine Hs.call (f := 12) (args := #[.pointer (some ⟨g2, 0, none⟩), ev e]) 5 49 rfl ?_ (run_callf Tryd.func12 (by kernel_rfl) (by kernel_rfl) (by simp only [List.map_toArray, List.map_cons, List.map_nil]; rfl))
          refine (S5.out.go2 e HSZ.out (by have := HLen.out; omega)).mono ?_
          rintro x w6 ⟨F6, rfl, s6, f6, t6⟩
          have S6 := Lib.hid s6
          have K6 := Lib.hid (K5.out.touch t6 N2.out)
          refine Hs.back (v := .bool (did e)) (t6.wide (fun k hk => List.mem_append_right _ hk)) ?_
          clear s6 f6 t6 K5 S5
          obtain ⟨dd, hdd⟩ : ∃ dd, did e = dd := ⟨_, rfl⟩
          rw [hdd]
          clear hdd
          refine Hs.take (v := .bool false) 6 50 rfl ?_ (fun _ _ => by cases dd <;> go_simp)
          refine Hs.take (v := .bool false) 7 51 rfl ?_ (fun _ _ => rfl)
          refine Hs.take (v := .pointer (some ⟨g, 0, none⟩)) 8 52 rfl ?_ (fun _ _ => rfl)
          refine Hs.take (v := .pointer (some ⟨g2, 0, none⟩)) 10 54 rfl ?_ (fun _ _ => rfl)
          refine Hs.call (f := 13) (args := #[.pointer (some ⟨g, 0, none⟩)]) 9 53 rfl ?_ (run_callf Tryd.func13 (by kernel_rfl) (by kernel_rfl) (by simp only [List.map_toArray, List.map_cons, List.map_nil]; rfl))
          refine (Sum_t w6 g F5 (c0 + 1) (doo L e) S6.out.tx.tb (by omega) (S6.out.tx.tab HT.out)).mono ?_
          rintro x w7 ⟨rfl, b7⟩
          have S7 := Lib.hid (S6.out.past b7)
          have K7 := Lib.hid (K6.out.past b7)
          refine Hs.back (v := .int .u32 (sum (doo L e) : Nat)) (.of_below b7) ?_
          clear b7 S6 K6
          refine Hs.call (f := 14) (args := #[.pointer (some ⟨g2, 0, none⟩)]) 11 55 rfl ?_ (run_callf Tryd.func14 (by kernel_rfl) (by kernel_rfl) (by simp only [List.map_toArray, List.map_cons, List.map_nil]; rfl))
          refine (rSum_t w7 g2 F6 (doo L e) S7.out.rt S7.out.tx.tb.ok (by have := doo_len L e; have := HLen.out; omega)).mono ?_
          rintro x w8 ⟨rfl, b8⟩
          have S8 := Lib.hid (S7.out.past b8)
          have K8 := Lib.hid (K7.out.past b8)
          refine Hs.back (v := .int .u32 (sum (doo L e) : Nat)) (.of_below b8) ?_
          clear b8 S7 K7
          refine Hs.take (v := .bool false) 12 56 rfl ?_ (fun _ _ => by go_simp)
          refine Hs.take (v := .bool false) 13 57 rfl ?_ (fun _ _ => rfl)
          refine Hs.done ?_
          have HL2 := Lib.hid (show (doo L e).length ≤ i + 1 by have := doo_len L e; have := HLen.out; omega)
          generalize doo L e = L2 at *
          obtain ⟨x, y, ok, hwv, hx⟩ := wordV_parts d HD20.out
          have HW := Lib.hid hwv
          have HX := Lib.hid hx
          clear hwv hx N1 N2 N12 HLen
          have e6 := K8.out.cell (i := 6) rfl
          rw [HED.out] at e6
          go_wp2_with fail
          refine (Word_c d w8 (by have := HD20.out; omega)).mono ?_
          rw [HW.out]
          rintro x' w9 ⟨rfl, b9⟩
          have S9 := Lib.hid (S8.out.past b9)
          have K9 := Lib.hid (K8.out.past b9)
          clear b9 S8 K8 e6
          have e6 := K9.out.cell (i := 6) rfl
          rw [HED.out] at e6
          go_wp2_with fail
          refine (rWord_c d w9 (by have := HD20.out; omega)).mono ?_
          rw [HW.out]
          rintro x' w10 ⟨rfl, b10⟩
          have S10 := Lib.hid (S9.out.past b10)
          clear b10 S9 K9 e6
          go_wp2_with fail
          refine (Get_c w10 g F5 (c0 + 1) L2 S10.out.tx.tb x HX.out).mono ?_
          rintro x' w11 ⟨rfl, b11⟩
          have S11 := Lib.hid (S10.out.past b11)
          clear b11 S10
          go_wp2_with fail
          refine (rGet_c w11 g2 F6 L2 S11.out.rt x).mono ?_
          rintro x' w12 ⟨rfl, b12⟩
          have S12 := Lib.hid (S11.out.past b12)
          clear b12 S11
          generalize (PTab.get L2 x).getD ⟨#[]⟩ = gx at *
          generalize (PTab.get L2 x).isSome = gy at *
          go_wp2_with fail
          go_roundw
          case rel => exact ⟨i + 1, c0 + 1, F5, F6, L2, by omega, by omega, by omega, by go_num, HL2, S12⟩
          case measure => simp [intOf]; omega
    · as_aux_lemma =>
          go_wp2_with fail
          refine (Names_c wr g F c0 L SX.out.tx.tb (by omega)).mono ?_
          rintro x w4 ⟨A4, c4, rfl, o4, -, b4⟩
          have S4 := Lib.hid (SX.out.past b4)
          have R4 := Lib.hid (Rd.of_own o4)
          obtain ⟨A5, c5, d5, hR5⟩ := S4.out.rt.open
          have D5 := Lib.hid d5
          have R5 := Lib.hid hR5
          have LG := Lib.hid (World.block_lt_of_cell? w4 _ d5)
          obtain ⟨m, hm⟩ : ∃ m, L.length = m := ⟨_, rfl⟩
          have HM := Lib.hid hm
          have hm40 : m ≤ 40 := by have := HLen.out; omega
          rw [hm] at R4 D5 R5 d5 ⊢
          clear o4 b4 hR5 SX hm
          go_wp2_with fail
          clear d5
          go_loopw [19] (fun s19 wz => ∃ j : Nat, j ≤ m ∧ s19 = .int .i64 j ∧ Hid (Below w4.heap.size w4 wz)) (fun s19 _ => m - (intOf s19).toNat)
          case atStart => exact ⟨0, by omega, rfl, Lib.hid (Below.refl _ _)⟩
          case round =>
            obtain ⟨j, hj, rfl, BL⟩ := hrel
            by_cases hjm : j < m
            · obtain ⟨b0, o0, p, rfl, hb0, hp, c1, c2⟩ := R5.out.pr hjm
              obtain ⟨b1, o1, rfl, hb1, c3⟩ := R4.out.at_ hjm
              rw [nms_getD hp] at c3
              have C1 := Lib.hid c1
              have C3 := Lib.hid c3
              have LB0 := Lib.hid hb0
              have LB1 := Lib.hid hb1
              have BD := Lib.hid BL.out.drew
              clear hp c1 c2 c3 hb0 hb1
              go_wp2_with fail
              refine Hs.begin [] ?_
              refine Hs.take (v := .slice (some ⟨b1, o1, none⟩) m c4) 0 123 rfl ?_ (fun _ _ => rfl)
              refine Hs.take (v := .int .i64 (j : Int)) 1 124 rfl ?_ (fun _ _ => rfl)
              refine Hs.take (v := .pointer (some ⟨b1, o1 + j, none⟩)) 2 125 rfl ?_ (fun w' hw' => by go_simp; first | done | rfl | omega)
              refine Hs.take (v := .string p.1) 3 126 rfl ?_ (fun w' hw' => by have c := (below_touch BD.out hw' (p := ⟨b1, o1 + j, none⟩) LB1.out).trans C3.out; go_simp)
              refine Hs.take (v := .pointer (some ⟨g2, 0, none⟩)) 4 127 rfl ?_ (fun _ _ => rfl)
              refine Hs.take (v := .pointer (some ⟨g2, 0, none⟩)) 5 128 rfl ?_ (fun w' hw' => by go_simp; first | done | rfl | omega)
              refine Hs.take (v := .pointer (some ⟨g2, 0, none⟩)) 6 129 rfl ?_ (fun w' hw' => by go_simp; first | done | rfl | omega)
              refine Hs.take (v := .slice (some ⟨b0, o0, none⟩) m c5) 7 130 rfl ?_ (fun w' hw' => by have c := (below_touch BD.out hw' (p := ⟨g2, 0, none⟩) LG.out).trans D5.out; go_simp)
              refine Hs.take (v := .int .i64 (j : Int)) 8 131 rfl ?_ (fun _ _ => rfl)
              refine Hs.take (v := .pointer (some ⟨b0, o0 + j * 2, none⟩)) 9 132 rfl ?_ (fun w' hw' => by go_simp; first | done | rfl | omega)
              refine Hs.take (v := .pointer (some ⟨b0, o0 + j * 2, none⟩)) 10 133 rfl ?_ (fun w' hw' => by go_simp; first | done | rfl | omega)
              refine Hs.take (v := .string p.1) 11 134 rfl ?_ (fun w' hw' => by have c := (below_touch BD.out hw' (p := ⟨b0, o0 + j * 2, none⟩) LB0.out).trans C1.out; go_simp)
              refine Hs.take (v := .bool false) 12 135 rfl ?_ (fun _ _ => run_strNe rfl rfl (by simp))
              refine Hs.done ?_
              go_wp2_with fail
              go_roundw
              case rel => exact ⟨j + 1, by omega, by go_num, BD⟩
              case measure => simp [intOf]; omega
            · go_wp2_with fail
              go_ret
              exact ⟨rfl, S4.out.tx.bel.trans (BL.out.mono S4.out.tx.bel.size)⟩
    · as_aux_lemma =>
          go_wp2_with fail
          refine (Names_c wr g F c0 L SX.out.tx.tb (by omega)).mono ?_
          rintro x w4 ⟨A4, c4, rfl, o4, -, b4⟩
          have S4 := Lib.hid (SX.out.past b4)
          have R4 := Lib.hid (Rd.of_own o4)
          obtain ⟨A5, c5, d5, hR5⟩ := S4.out.rt.open
          have D5 := Lib.hid d5
          have R5 := Lib.hid hR5
          have LG := Lib.hid (World.block_lt_of_cell? w4 _ d5)
          obtain ⟨m, hm⟩ : ∃ m, L.length = m := ⟨_, rfl⟩
          have HM := Lib.hid hm
          have hm40 : m ≤ 40 := by have := HLen.out; omega
          rw [hm] at R4 D5 R5 d5 ⊢
          clear o4 b4 hR5 SX hm
          go_wp2_with fail
          clear d5
          go_loopw [19] (fun s19 wz => ∃ j : Nat, j ≤ m ∧ s19 = .int .i64 j ∧ Hid (Below w4.heap.size w4 wz)) (fun s19 _ => m - (intOf s19).toNat)
          case atStart => exact ⟨0, by omega, rfl, Lib.hid (Below.refl _ _)⟩
          case round =>
            obtain ⟨j, hj, rfl, BL⟩ := hrel
            by_cases hjm : j < m
            · obtain ⟨b0, o0, p, rfl, hb0, hp, c1, c2⟩ := R5.out.pr hjm
              obtain ⟨b1, o1, rfl, hb1, c3⟩ := R4.out.at_ hjm
              rw [nms_getD hp] at c3
              have C1 := Lib.hid c1
              have C3 := Lib.hid c3
              have LB0 := Lib.hid hb0
              have LB1 := Lib.hid hb1
              have BD := Lib.hid BL.out.drew
              clear hp c1 c2 c3 hb0 hb1
              go_wp2_with fail
              refine Hs.begin [] ?_
              refine Hs.take (v := .slice (some ⟨b1, o1, none⟩) m c4) 0 123 rfl ?_ (fun _ _ => rfl)
              refine Hs.take (v := .int .i64 (j : Int)) 1 124 rfl ?_ (fun _ _ => rfl)
              refine Hs.take (v := .pointer (some ⟨b1, o1 + j, none⟩)) 2 125 rfl ?_ (fun w' hw' => by go_simp; first | done | rfl | omega)
              refine Hs.take (v := .string p.1) 3 126 rfl ?_ (fun w' hw' => by have c := (below_touch BD.out hw' (p := ⟨b1, o1 + j, none⟩) LB1.out).trans C3.out; go_simp)
              refine Hs.take (v := .pointer (some ⟨g2, 0, none⟩)) 4 127 rfl ?_ (fun _ _ => rfl)
              refine Hs.take (v := .pointer (some ⟨g2, 0, none⟩)) 5 128 rfl ?_ (fun w' hw' => by go_simp; first | done | rfl | omega)
              refine Hs.take (v := .pointer (some ⟨g2, 0, none⟩)) 6 129 rfl ?_ (fun w' hw' => by go_simp; first | done | rfl | omega)
              refine Hs.take (v := .slice (some ⟨b0, o0, none⟩) m c5) 7 130 rfl ?_ (fun w' hw' => by have c := (below_touch BD.out hw' (p := ⟨g2, 0, none⟩) LG.out).trans D5.out; go_simp)
              refine Hs.take (v := .int .i64 (j : Int)) 8 131 rfl ?_ (fun _ _ => rfl)
              refine Hs.take (v := .pointer (some ⟨b0, o0 + j * 2, none⟩)) 9 132 rfl ?_ (fun w' hw' => by go_simp; first | done | rfl | omega)
              refine Hs.take (v := .pointer (some ⟨b0, o0 + j * 2, none⟩)) 10 133 rfl ?_ (fun w' hw' => by go_simp; first | done | rfl | omega)
              refine Hs.take (v := .string p.1) 11 134 rfl ?_ (fun w' hw' => by have c := (below_touch BD.out hw' (p := ⟨b0, o0 + j * 2, none⟩) LB0.out).trans C1.out; go_simp)
              refine Hs.take (v := .bool false) 12 135 rfl ?_ (fun _ _ => run_strNe rfl rfl (by simp))
              refine Hs.done ?_
              go_wp2_with fail
              go_roundw
              case rel => exact ⟨j + 1, by omega, by go_num, BD⟩
              case measure => simp [intOf]; omega
            · go_wp2_with fail
              go_ret
              exact ⟨rfl, S4.out.tx.bel.trans (BL.out.mono S4.out.tx.bel.size)⟩
end Go.Proofs.YtapleleaogjcjaaDoor
