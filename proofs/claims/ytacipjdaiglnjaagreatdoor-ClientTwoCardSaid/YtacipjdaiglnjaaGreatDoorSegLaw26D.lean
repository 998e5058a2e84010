/- The walk of ClientTwo. -/
import Derived.Test.YtacipjdaiglnjaaGreatDoorSeg26
namespace Go.Proofs.YtacipjdaiglnjaaGreatDoor
open Go.RowKit PNode

/-- The int at place i of a row that came in, in any later world. -/
theorem Rd.intB {w : World} {B n c i : Nat} {A : Option Addr} {l : List Int} (h : Rd w B A c 1 n (is l)) (hi : i < n) : ∃ b o, A = some ⟨b, o, none⟩ ∧ ∀ w', Below B w w' → w'.cell? ⟨b, o + i, none⟩ = some (.int .i64 (l.getD i 0)) := by
  obtain ⟨b, o, hA, hb, hc⟩ := h.at_ hi
  refine ⟨b, o, hA, fun w' hw => ?_⟩
  rw [hw.cell hb, hc, is_getD _ _ (by have := h.ilen; omega)]
/-- Two that ask one process. -/
structure Tw (w0 w : World) (x d g g2 : Nat) (p : Np) (j : Nat) (a b l : Int) : Prop where
  la : La w0 w x d g [g2] p a l
  k2 : Cl w g2 (some ⟨x, 0, none⟩) b 0
  hg : w0.heap.size ≤ g2
  s : Sw j p
  ra : 0 ≤ a ∧ a ≤ p.T.length
  rb : 0 ≤ b ∧ b ≤ p.T.length
  rl : 0 ≤ l ∧ l ≤ j
section
variable {w0 w w' : World} {x d g g2 j : Nat} {p p' : Np} {a b l : Int}
theorem Tw.go (h : Tw w0 w x d g g2 p j a b l) (h1 : La w0 w' x d g [g2] p' a l) (h2 : Sty [g2] w w') (h3 : Sw (j + 1) p') (h4 : p.T <+: p'.T) : Tw w0 w' x d g g2 p' (j + 1) a b l :=
  have hl := h4.length_le
  ⟨h1, h2.blk (List.mem_singleton.2 rfl) h.k2, h.hg, h3, by have := h.ra; omega, by have := h.rb; omega, by have := h.rl; omega⟩
theorem Tw.pollA (h : Tw w0 w x d g g2 p j a b l) (hj : j ≤ 1000) : Calls Tryz.prog 13 #[.pointer (some ⟨g, 0, none⟩)] w fun e w' => ∃ A c m, e = .returned (.slice A m c) ∧ m ≤ 60000 ∧ a + (m : Int) = p.T.length ∧ Tw w0 w' x d g g2 p j (a + (m : Int)) b l := by
  have hs := h.s.len
  refine (h.la.poll h.ra (by omega)).mono ?_
  rintro e w' ⟨A, c, rfl, -, h1, h2, -⟩
  have hr := h.ra
  have e1 : a + ((p.T.drop a.toNat).length : Int) = p.T.length := by rw [List.length_drop]; omega
  rw [← e1] at h1
  exact ⟨A, c, _, rfl, by rw [List.length_drop]; omega, e1, h1, h2.blk (List.mem_singleton.2 rfl) h.k2, h.hg, h.s, by omega, h.rb, h.rl⟩
theorem Tw.pollB (h : Tw w0 w x d g g2 p j a b l) (hj : j ≤ 1000) : Calls Tryz.prog 13 #[.pointer (some ⟨g2, 0, none⟩)] w fun e w' => ∃ A c m, e = .returned (.slice A m c) ∧ m ≤ 60000 ∧ b + (m : Int) = p.T.length ∧ Tw w0 w' x d g g2 p j a (b + (m : Int)) l := by
  have hs := h.s.len
  have hb := h.rb
  refine ((h.la.swap h.k2 h.hg).poll h.rb (by omega)).mono ?_
  rintro e w' ⟨A, c, rfl, -, h1, h2, -⟩
  have e1 : b + ((p.T.drop b.toNat).length : Int) = p.T.length := by rw [List.length_drop]; omega
  rw [← e1] at h1
  exact ⟨A, c, _, rfl, by rw [List.length_drop]; omega, e1, h1.swap (h2.blk (List.mem_singleton.2 rfl) h.la.cl) h.la.gl, h1.cl, h.hg, h.s, h.ra, by omega, h.rl⟩
end

set_option maxHeartbeats 16000000 in
set_option maxRecDepth 100000 in
theorem ClientTwo_w (w : World) (ht : Tab w) (A0 : Option Addr) (n c0 : Nat) (z : List Int) (h0 : Rd w w.heap.size A0 c0 1 n (is z)) :
    Calls Tryz.prog 7 #[.slice A0 n c0] w fun e w' => e = .returned (.bool true) ∧ Below w.heap.size w w' := by
  have HT := Lib.hid ht
  have R0 := Lib.hid h0
  clear ht h0
  go_enter Tryz.func7, Tryz.ntmps7
  go_wp2_with fail
  refine (bgn_c w HT.out).mono ?_
  rintro e w1 ⟨rfl, b1⟩
  have T1 := Lib.hid (HT.out.past b1)
  have B1 := Lib.hid b1
  clear b1
  go_wp2_with fail
  refine (trio_c w1 T1.out).mono ?_
  rintro e w2 ⟨x, d, g, rfl, h2, hr⟩
  have H2 := Lib.hid h2
  have HR := Lib.hid hr
  clear h2 hr
  go_wp2_with fail
  refine (clNew_c w2 _).mono ?_
  rintro e w3 ⟨rfl, k3, b3⟩
  obtain ⟨g2, hg2⟩ : ∃ g2, w2.heap.size = g2 := ⟨_, rfl⟩
  have H3 := Lib.hid (show Tw w1 w3 x d g g2 stI (3 * 0) 0 0 0 from by
    have hlt := Blk.lt k3
    rw [hg2] at k3 hlt
    exact ⟨H2.out.beside (S := []) (B' := [g2]) (.of_below b3) (by simp) (fun b hb => by rw [List.mem_singleton.1 hb, hg2]; exact .inr ⟨Nat.le_refl _, hlt⟩), k3, by rw [← hg2]; exact H2.out.bel.size, .inl ⟨_, ld0 HR.out⟩, by simp, by simp, by simp⟩)
  rw [hg2]
  clear k3 b3 hg2 H2 HR
  go_wp2_with fail
  go_loopw [7, 8, 9] (fun s7 s8 s9 wr => ∃ (i : Nat) (p : Np) (a b l : Int), s7 = .int .i64 a ∧ s8 = .int .i64 b ∧ s9 = .int .i64 (i : Int) ∧ i ≤ n ∧ i ≤ 12 ∧ Hid (Tw w1 wr x d g g2 p (3 * i) a b l)) (fun _ _ s9 _ => (12 - intOf s9).toNat)
  case atStart => exact ⟨0, stI, 0, 0, 0, rfl, rfl, rfl, Nat.zero_le _, Nat.zero_le _, H3⟩
  case round =>
    obtain ⟨i, p, a, b, l, rfl, rfl, rfl, hi, hi2, H4⟩ := hrel
    clear H3
    by_cases hlt : i < n ∧ i < 12
    · obtain ⟨hlt, hlt2⟩ := hlt
      obtain ⟨bz, oz, rfl, hz⟩ := R0.out.intB hlt
      have HZ := Lib.hid hz
      have hl0 := H4.out.rl
      have hl1 : l ≤ 1000000 := by omega
      clear hz
      go_wp2_with fail
      refine (H4.out.la.cast 0 1 ⟨#[120]⟩ hl0.1 hl1).mono ?_
      rintro e w5 ⟨er, p5, q5, rfl, h5, y5⟩
      obtain ⟨s5, e5⟩ := H4.out.s.cast q5
      have H5 := Lib.hid (show Tw w1 w5 x d g g2 p5 (3 * i + 1) a b (lostC l er) from by
        have t4 := H4.out
        exact ⟨h5, y5.blk (List.mem_singleton.2 rfl) t4.k2, t4.hg, s5, by rw [e5]; exact t4.ra, by rw [e5]; exact t4.rb, by unfold lostC; split <;> omega⟩)
      clear q5 h5 y5 s5 e5 H4 hl0 hl1
      go_wp2_with fail
      refine (H5.out.la.post (fun F hF => hF.tickW H5.out.s (by omega))).mono ?_
      rintro e w6 ⟨Q, p6, A6, c6, ⟨q1, q2, q3⟩, rfl, o6, h6, y6⟩
      have H6 := Lib.hid (H5.out.go h6 y6 q1 q2)
      have O6 := Lib.hid o6
      have Q6 := Lib.hid q3
      clear q1 q2 q3 o6 h6 y6 H5
      go_wp2_with fail
      refine (H6.out.la.acksW H6.out.s (by omega) T1.out O6.out Q6.out).mono ?_
      rintro e w7 ⟨p7, rfl, s7, x7, h7, y7⟩
      have H7 := Lib.hid (show Tw w1 w7 x d g g2 p7 (3 * (i + 1)) a b (lostC l er) from H6.out.go h7 y7 s7 x7)
      clear s7 x7 h7 y7 H6 O6 Q6
      obtain ⟨zi, hzi⟩ : ∃ zi, z.getD i 0 = zi := ⟨_, rfl⟩
      rw [hzi] at HZ
      have k7 := HZ.out w7 (B1.out.trans (H7.out.la.bel.mono B1.out.size))
      obtain ⟨v1, hv1⟩ : ∃ v, bits .and .i64 zi 1 = v := ⟨_, rfl⟩
      obtain ⟨v2, hv2⟩ : ∃ v, bits .and .i64 zi 2 = v := ⟨_, rfl⟩
      have hs7 := H7.out.s.len
      obtain ⟨ha, ha'⟩ := H7.out.ra
      obtain ⟨hb, hb'⟩ := H7.out.rb
      have ha2 : a ≤ 60000 := by omega
      have hb2 : b ≤ 60000 := by omega
      clear hzi ha' hb' hs7
      by_cases hz1 : v1 = 0
      · subst hz1
        by_cases hz2 : v2 = 0
        · subst hz2
          go_wp2_with fail
          go_roundw
          case rel => exact ⟨i + 1, p7, a, b, _, rfl, rfl, by go_num, by omega, by omega, H7⟩
          case measure => simp [intOf]; omega
        · have hz2' : (v2 != 0) = true := by simpa using hz2
          go_wp2_with fail
          refine (H7.out.pollB (by omega)).mono ?_
          rintro e w8 ⟨A8, c8, m8, rfl, hm8, -, h8⟩
          have H8 := Lib.hid h8
          clear h8 H7 k7
          go_wp2_with fail
          go_roundw
          case rel => exact ⟨i + 1, p7, a, _, _, rfl, rfl, by go_num, by omega, by omega, H8⟩
          case measure => simp [intOf]; omega
      · have hz1' : (v1 != 0) = true := by simpa using hz1
        by_cases hz2 : v2 = 0
        · subst hz2
          go_wp2_with fail
          refine (H7.out.pollA (by omega)).mono ?_
          rintro e w8 ⟨A8, c8, m8, rfl, hm8, -, h8⟩
          have H8 := Lib.hid h8
          clear h8 H7 k7
          have k8 := HZ.out w8 (B1.out.trans (H8.out.la.bel.mono B1.out.size))
          go_wp2_with fail
          go_roundw
          case rel => exact ⟨i + 1, p7, _, b, _, rfl, rfl, by go_num, by omega, by omega, H8⟩
          case measure => simp [intOf]; omega
        · have hz2' : (v2 != 0) = true := by simpa using hz2
          go_wp2_with fail
          refine (H7.out.pollA (by omega)).mono ?_
          rintro e w8 ⟨A8, c8, m8, rfl, hm8, -, h8⟩
          have H8 := Lib.hid h8
          clear h8 H7 k7
          have k8 := HZ.out w8 (B1.out.trans (H8.out.la.bel.mono B1.out.size))
          go_wp2_with fail
          refine (H8.out.pollB (by omega)).mono ?_
          rintro e w9 ⟨A9, c9, m9, rfl, hm9, -, h9⟩
          have H9 := Lib.hid h9
          clear h9 H8 k8
          go_wp2_with fail
          go_roundw
          case rel => exact ⟨i + 1, p7, _, _, _, rfl, rfl, by go_num, by omega, by omega, H9⟩
          case measure => simp [intOf]; omega
    · have hs7 := H4.out.s.len
      obtain ⟨ha, ha'⟩ := H4.out.ra
      obtain ⟨hb, hb'⟩ := H4.out.rb
      have ha2 : a ≤ 60000 := by omega
      have hb2 : b ≤ 60000 := by omega
      have hi3 : i ≤ 12 := hi2
      clear ha' hb' hs7 hi2
      rcases (by omega : i = n ∨ (i < n ∧ i = 12)) with rfl | ⟨hlt2, rfl⟩
      all_goals
        go_wp2_with fail
        refine (H4.out.pollA (by omega)).mono ?_
        rintro e w8 ⟨A8, c8, m8, rfl, hm8, e8, h8⟩
        have H8 := Lib.hid h8
        clear h8 H4
        go_wp2_with fail
        refine (H8.out.pollB (by omega)).mono ?_
        rintro e w9 ⟨A9, c9, m9, rfl, hm9, e9, h9⟩
        have H9 := Lib.hid h9
        have E1 := Lib.hid e8
        have E2 := Lib.hid e9
        clear h9 H8 e8 e9
        go_wp2_with fail
        refine H9.out.la.told.mono ?_
        rintro e w10 ⟨A10, c10, rfl, -, b10⟩
        have K10 := Lib.hid (H9.out.k2.past b10)
        have B10 := Lib.hid (B1.out.trans ((H9.out.la.bel.trans (b10.mono H9.out.la.bel.size)).mono B1.out.size))
        have e1 : ((a + (m8 : Int)) == (p.T.length : Int)) = true := by rw [E1.out]; simp
        have e2 : ((b + (m9 : Int)) == (a + (m8 : Int))) = true := by rw [E1.out, E2.out]; simp
        clear b10 H9
        go_wp2_with fail
        refine (clLost_c K10.out).mono ?_
        rintro e w' ⟨rfl, rfl⟩
        go_wp2_with fail
        go_ret
        exact ⟨rfl, B10.out⟩
end Go.Proofs.YtacipjdaiglnjaaGreatDoor

