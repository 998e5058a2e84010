/- The document's own Pending: its Done. -/
import Derived.Test.YtmlmngoieabjbaaPendR
namespace Go.Proofs.Ytmlmngoieabjbaa
open Go.RowKit PPend

theorem left_no {l L : List Ent} {i : Nat} {x : Ent} (hx : L[i]? = some x) (hp : PLog.has l x = true) : left l (L.take (i + 1)) = left l (L.take i) := by
  unfold left
  rw [List.take_add_one, hx, List.filter_append]; simp [hp]
theorem left_yes {l L : List Ent} {i : Nat} {x : Ent} (hx : L[i]? = some x) (hp : PLog.has l x = false) : left l (L.take (i + 1)) = left l (L.take i) ++ [x] := by
  unfold left
  rw [List.take_add_one, hx, List.filter_append]; simp [hp]

set_option maxHeartbeats 8000000 in
set_option maxRecDepth 100000 in
theorem rndone_c (w : World) (g : Nat) (F : List Nat) (fr boot seq : Int) (L : List Ent) (h : Rn w g F fr boot seq L) (hL : L.length ≤ 1000) (A : Option Addr) (c n : Nat) (l : List Ent) (R : Rd w w.heap.size A c 7 n (els l)) :
    Calls Try.prog 14 #[.pointer (some ⟨g, 0, none⟩), .slice A n c] w fun e w' => e = .returned (.int .i64 ((L.length : Int) - (left l L).length)) ∧ RnW w w' g F fr boot seq (left l L) := by
  obtain ⟨AL, cL, hB, hR⟩ := h.blk
  have B0 := Lib.hid hB
  have R0 := Lib.hid hR
  have RL := Lib.hid R
  have HX := Lib.hid h.ex
  clear hB hR R h
  go_enter Try.func14, Try.ntmps14
  go_wp2_with fail
  go_loopw [5, 6] (fun s5 s6 wr => ∃ (i c2 m : Nat) (A2 : Option Addr) (M : List Ent), i ≤ L.length ∧ s6 = .int .i64 i ∧ s5 = .slice A2 m c2 ∧ m ≤ i ∧ Hid (M.length = m) ∧ Hid (M = left l (L.take i)) ∧
      Hid (wr.ownsRow w.heap.size 35 7 (.slice A2 m c2) m (els M)) ∧ Hid (Below w.heap.size w wr))
    (fun _ s6 _ => L.length - (intOf s6).toNat)
  case atStart => exact ⟨0, 0, 0, none, [], by omega, rfl, rfl, by omega, Lib.hid rfl, Lib.hid rfl, Lib.hid (World.ownsRow_nil _ _ _ _), Lib.hid (Below.refl _ _)⟩
  case round =>
    obtain ⟨i, c2, m, A2, M, hin, rfl, rfl, hmi, HM, HE, O, BL⟩ := hrel
    have c3 := (B0.out.past BL.out).cell (i := 3) rfl
    by_cases h1 : i < L.length
    · obtain ⟨b, o, x, rfl, -, hx, -, d0, d1, d2, d3, d4, d5, d6⟩ := (R0.out.below BL.out).ent h1
      have HXI := Lib.hid hx
      clear hx
      cases hp : PLog.has l x
      · have HP := Lib.hid hp
        have HL := Lib.hid (show left l (L.take (i + 1)) = M ++ [x] by rw [left_yes HXI.out hp, ← HE.out])
        clear hp
        go_wp2_with fail
        clear d0 d1 d2 d3 d4 d5 d6 c3
        refine (rHas_c wr w.heap.size A c n l (RL.out.past BL.out) x).mono ?_
        rw [HP.out]
        rintro e w1 ⟨rfl, b1⟩
        have B1 := Lib.hid (BL.out.trans (b1.mono BL.out.size))
        have O1 := Lib.hid (own_below O.out b1)
        have c3 := (B0.out.past B1.out).cell (i := 3) rfl
        obtain ⟨b', o', x', hA', -, hx', -, d0, d1, d2, d3, d4, d5, d6⟩ := (R0.out.below B1.out).ent h1
        obtain ⟨rfl, rfl⟩ : b = b' ∧ o = o' := by simpa using hA'
        obtain rfl : x = x' := by rw [HXI.out] at hx'; exact Option.some.inj hx'
        clear b1 O BL hA' hx'
        go_wp2_with (at_builtin; go_must (refine wpList_pushes rfl (.tmp 27) (.tmp 35) _ rfl w.heap.size 35 (ev zeroE) 7 64 1 Try.underlying23 ent_info rfl (by omega) rfl (by unfold maxLen; omega) A2 c2 m (els M) rfl O1.out rfl ?h1 ?h2 ?h3 ?h4 ?_))
        case h1 => exact ⟨rfl, rfl, rfl, rfl, rfl, rfl, rfl⟩
        case h2 => unfold maxLen; omega
        case h3 => omega
        case h4 => exact B1.out.size
        intro A3 c3 w2 hown2 hg2 hb2
        have B2 := Lib.hid (B1.out.trans hb2)
        have O2 := Lib.hid (show w2.ownsRow w.heap.size 35 7 (.slice A3 (m + 1) c3) (m + 1) (els (M ++ [x])) by rw [els_append]; exact hown2)
        clear hown2 hg2 hb2 B1 O1
        go_wp2_with fail
        go_roundw
        case rel => exact ⟨i + 1, c3, m + 1, A3, M ++ [x], by omega, by go_num, rfl, by omega, Lib.hid (by simp [HM.out]), Lib.hid HL.out.symm, O2, B2⟩
        case measure => simp [intOf]; omega
      · have HP := Lib.hid hp
        have HL := Lib.hid (show left l (L.take (i + 1)) = M by rw [left_no HXI.out hp, ← HE.out])
        clear hp
        go_wp2_with fail
        clear d0 d1 d2 d3 d4 d5 d6 c3
        refine (rHas_c wr w.heap.size A c n l (RL.out.past BL.out) x).mono ?_
        rw [HP.out]
        rintro e w1 ⟨rfl, b1⟩
        have B1 := Lib.hid (BL.out.trans (b1.mono BL.out.size))
        have O1 := Lib.hid (own_below O.out b1)
        clear b1 O BL
        go_wp2_with fail
        go_roundw
        case rel => exact ⟨i + 1, c2, m, A2, M, by omega, by go_num, rfl, by omega, HM, Lib.hid HL.out.symm, O1, B1⟩
        case measure => simp [intOf]; omega
    · obtain rfl : i = L.length := by omega
      have HE2 := Lib.hid (show M = left l L by have := HE.out; rwa [List.take_length] at this)
      have BG := Lib.hid (B0.out.past BL.out)
      have f3 := BG.out.free 3
      have TG := Lib.hid ((Touch.of_below (S := [g]) BL.out).trans (.of_grown (grown_set wr g 3 (.slice A2 m c2))))
      have RN := Lib.hid (show RnW w (wr.setCell ⟨g, 3, none⟩ (.slice A2 m c2)) g F fr boot seq (left l L) from by
        obtain ⟨A', c', hB', hO', hF⟩ := HX.out
        have ow := Ow.of_own O.out
        have hne : bk A2 ≠ some g := fun hk => by have := ow.low g hk; have := B0.out.lt; omega
        refine ⟨⟨g :: bl A2, ⟨A2, c2, ?_, ?_, rfl⟩, fun k hk => ?_⟩, TG.out.wide (by rw [hF]; simp)⟩
        · rw [← HE2.out, HM.out]; exact BG.out.set 3 (.slice A2 m c2)
        · rw [← HE2.out, HM.out]
          exact (ow.down (Nat.zero_le _)).touch (.of_grown (grown_set wr g 3 (.slice A2 m c2))) (fun s hs => by rw [List.mem_singleton] at hs; subst hs; exact hne)
        · rcases List.mem_cons.1 hk with q | q
          · left; rw [hF, q]; exact List.mem_cons_self ..
          · exact .inr (ow.low k (mem_bl.1 q)))
      have HML := Lib.hid (show (left l L).length = m by rw [← HE2.out]; exact HM.out)
      clear BG TG
      go_wp2_with fail
      go_ret
      exact ⟨by rw [HML.out]; rfl, RN.out⟩
end Go.Proofs.Ytmlmngoieabjbaa
