/- Contracts of the statements' Cut, Entries. -/
import Derived.Test.YtkpgijmpaklfgaaEntZ
import Derived.Test.YtkpgijmpaklfgaaHeld
import Derived.Test.YtkpgijmpaklfgaaCut
import Derived.Laws.StructEq
namespace Go.Proofs.Ytkpgijmpaklfgaa
open Go.RowKit

set_option maxRecDepth 100000 in
theorem lCut_c (w : World) (e : Ent) : Calls Try.prog 18 #[ev e] w fun x w' => ∃ t : ByteArray, x = .returned (ev ⟨e.fr, e.boot, e.seq, e.ord, e.lev, e.stamp, t⟩) ∧ t.size ≤ 20 ∧ t.size ≤ e.data.size ∧ Below w.heap.size w w' := by
  obtain ⟨fr, boot, seq, ord, lev, stamp, data⟩ := e
  show Calls _ _ #[.agg #[.int .i64 fr, .int .i64 boot, .int .i64 seq, .int .i64 ord, .int .i64 lev, .int .i64 stamp, .string data]] _ _
  go_enter Try.func18, Try.ntmps18
  go_wp2_with fail
  refine (Cut_c _ data 20 (by omega)).mono ?_
  rintro x w1 ⟨t, rfl, rfl, ht1, ht2⟩
  go_wp2_with fail
  have K := Blk.newEnt (w.alloc (.cells #[.int .i64 fr, .int .i64 boot, .int .i64 seq, .int .i64 ord, .int .i64 lev, .int .i64 stamp, .string t] 30)) 30 ⟨fr, boot, seq, ord, lev, stamp, t⟩
  rw [show (w.alloc (.cells #[.int .i64 fr, .int .i64 boot, .int .i64 seq, .int .i64 ord, .int .i64 lev, .int .i64 stamp, .string t] 30)).heap.size = w.heap.size + 1 by simp] at K
  refine bodyPost_ret (v := ev ⟨fr, boot, seq, ord, lev, stamp, t⟩) (results_cell_row rfl _ _ (w.heap.size + 1) _ _ _ _ rfl K Try.underlying30 rfl (by kernel_rfl)) rfl ⟨t, rfl, by omega, ht2, ((Below.refl _ _).alloc (Nat.le_refl _) _).alloc (by simp) _⟩

/-- What is known of an entry of a law's own: its numbers are int64s, its text is short. -/
structure EntSm (e : Ent) : Prop where
  fit : PEnt.Fit e
  sz : e.data.size ≤ 20

set_option maxHeartbeats 4000000 in
set_option maxRecDepth 100000 in
theorem lEntries_c (w : World) (A : Option Addr) (c n : Nat) (l : List Ent) (k : Int) (h : Rd w w.heap.size A c 7 n (els l)) (hok : ∀ e ∈ l, EntOk e) (h0 : 0 ≤ k) (hk : k ≤ 1000) :
    Calls Try.prog 9 #[.slice A n c, .int .i64 k] w fun x w' => ∃ (A' : Option Addr) (c' : Nat) (es : List Ent), x = .returned (.slice A' es.length c') ∧ es.length = min n k.toNat ∧
      w'.ownsRow w.heap.size 30 7 (.slice A' es.length c') es.length (els es) ∧ (∀ e ∈ es, EntSm e) ∧ Below w.heap.size w w' := by
  obtain ⟨m, rfl⟩ := Int.eq_ofNat_of_zero_le h0
  have hcap := h.cap
  have hle := h.le
  have hn : n ≤ 9223372036854775807 := by unfold maxLen at hcap; omega
  have R0 := Lib.hid h
  have HOK := Lib.hid hok
  clear h hok hcap hle
  go_enter Try.func9, Try.ntmps9
  go_wp2_with fail
  go_loopw [5, 6] (fun s5 s6 wr => ∃ (i c' : Nat) (A' : Option Addr) (es : List Ent), i ≤ n ∧ i ≤ m ∧ s6 = .int .i64 i ∧ s5 = .slice A' i c' ∧ Hid (es.length = i) ∧
      Hid (wr.ownsRow w.heap.size 30 7 (.slice A' i c') i (els es)) ∧ Hid (∀ e ∈ es, EntSm e) ∧ Hid (Below w.heap.size w wr))
    (fun _ s6 _ => n - (intOf s6).toNat)
  case atStart => exact ⟨0, 0, none, [], by omega, by omega, rfl, rfl, Lib.hid rfl, Lib.hid (World.ownsRow_nil _ _ _ _), Lib.hid (by simp), Lib.hid (Below.refl _ _)⟩
  case round =>
    obtain ⟨i, c1, A1, es, hin, him, rfl, rfl, HL, O, HS, BL⟩ := hrel
    have fin : min n m = i → ∃ (A' : Option Addr) (c' : Nat) (es' : List Ent), Ending.returned (.slice A1 i c1) = .returned (.slice A' es'.length c') ∧ es'.length = min n ((m : Nat) : Int).toNat ∧
      wr.ownsRow w.heap.size 30 7 (.slice A' es'.length c') es'.length (els es') ∧ (∀ e ∈ es', EntSm e) ∧ Below w.heap.size w wr := by
      intro hm
      refine ⟨A1, c1, es, by rw [HL.out], by rw [HL.out, Int.toNat_natCast, hm], ?_, HS.out, BL.out⟩
      rw [HL.out]; exact O.out
    have FIN := Lib.hid fin
    clear fin
    by_cases h1 : i < n
    · by_cases h2 : i < m
      · obtain ⟨b, o, e, rfl, -, he, hmem, d0, d1, d2, d3, d4, d5, d6⟩ := (R0.out.below BL.out).ent h1
        have hE := HOK.out e hmem
        have HE := Lib.hid hE
        clear he hmem hE FIN
        go_wp2_with fail
        clear d0 d1 d2 d3 d4 d5 d6
        refine (lCut_c wr e).mono ?_
        simp only [ev]
        rintro x w1 ⟨t, rfl, ht1, ht2, b1⟩
        have HSm := Lib.hid (show EntSm ⟨e.fr, e.boot, e.seq, e.ord, e.lev, e.stamp, t⟩ from ⟨⟨HE.out.fit.f0, HE.out.fit.f1, HE.out.fit.f2, HE.out.fit.f3, HE.out.fit.f4, HE.out.fit.f5⟩, ht1⟩)
        have B1 := Lib.hid (BL.out.trans (b1.mono BL.out.size))
        have O1 := Lib.hid (own_below O.out b1)
        clear b1 O BL ht1 ht2
        go_wp2_with (at_builtin; go_must (refine wpList_pushes rfl (.tmp 18) (.tmp 24) _ rfl w.heap.size 30 (ev zeroE) 7 64 1 Try.underlying23 ent_info rfl (by omega) rfl (by unfold maxLen; omega) A1 c1 i (els es) rfl O1.out rfl ?h1 ?h2 ?h3 ?h4 ?_))
        case h1 => exact ⟨rfl, rfl, rfl, rfl, rfl, rfl, rfl⟩
        case h2 => unfold maxLen; omega
        case h3 => omega
        case h4 => exact B1.out.size
        intro A2 c2 w2 hown2 hg2 hb2
        have B2 := Lib.hid (B1.out.trans hb2)
        have O2 := Lib.hid (show w2.ownsRow w.heap.size 30 7 (.slice A2 (i + 1) c2) (i + 1) (els (es ++ [⟨e.fr, e.boot, e.seq, e.ord, e.lev, e.stamp, t⟩])) by rw [els_append]; exact hown2)
        clear hown2 hg2 hb2 B1 O1
        go_wp2_with fail
        go_roundw
        case rel => exact ⟨i + 1, c2, A2, es ++ [⟨e.fr, e.boot, e.seq, e.ord, e.lev, e.stamp, t⟩], by omega, by omega, by go_num, rfl, Lib.hid (by simp [HL.out]), O2, Lib.hid (fun y hy => by
          rcases List.mem_append.1 hy with hy | hy
          · exact HS.out y hy
          · rw [List.mem_singleton.1 hy]; exact HSm.out), B2⟩
        case measure => simp [intOf]; omega
      · go_wp2_with fail
        go_ret
        exact FIN.out (by omega)
    · go_wp2_with fail
      go_ret
      exact FIN.out (by omega)

end Go.Proofs.Ytkpgijmpaklfgaa
