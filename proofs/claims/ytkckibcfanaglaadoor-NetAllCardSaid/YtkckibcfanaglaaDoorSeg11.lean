/- A law's net; contract of begun (layer 18). -/
import Derived.Test.YtkckibcfanaglaaDoorSeg6
import Derived.Test.YtkckibcfanaglaaDoorSeg10
import Derived.Test.YtkckibcfanaglaaDoorRows
import Derived.Test.YtkckibcfanaglaaDoorSeg1
import Derived.Test.YtkckibcfanaglaaDoorSeg2
import Derived.Laws.StructEq
import Derived.Test.YtkckibcfanaglaaDoorSeg3
namespace Go.Proofs.YtkckibcfanaglaaDoor
open Go.RowKit

/-- Of the old blocks those of a net alone may have turned. -/
def NtT (w w' : World) : Prop := ∃ g F L, Nt w g F L ∧ Touch F w w'
section
variable {w0 w w' : World} {g : Nat} {L : List Msg}
theorem NtT.size (h : NtT w w') : w.heap.size ≤ w'.heap.size := by obtain ⟨_, _, _, _, h⟩ := h; exact h.size
theorem NtT.blk (h : NtT w w') {x : Nat} {e : TypeId} {xs : List Value} (K : Blk w x e xs) (h1 : e ≠ 48) (h2 : e ≠ 55) (h3 : e ≠ 5) : Blk w' x e xs := by
  obtain ⟨_, _, _, k1, k2⟩ := h
  exact K.touch k2 (k1.apart K h1 h2 h3)
theorem NtT.ow (h : NtT w w') {base k n c : Nat} {e : TypeId} {A : Option Addr} {xs : List Value} (O : Ow w base e k A n c xs) (h1 : e ≠ 48) (h2 : e ≠ 55) (h3 : e ≠ 5) : Ow w' base e k A n c xs := by
  obtain ⟨_, _, _, k1, k2⟩ := h
  exact O.other k2 (k1.not h1 h2 h3)
theorem NtT.ms (h : NtT w w') {base c : Nat} {A : Option Addr} {Q : List Mp} (M : Ms w base A c Q) : Ms w' base A c Q := by
  obtain ⟨_, _, _, k1, k2⟩ := h
  exact M.net k1 k2
theorem Sn.len (h : Sn w0 w g L) : Calls Tryd.prog 17 #[.pointer (some ⟨g, 0, none⟩)] w fun e w' => e = .returned (.int .i64 L.length) ∧ w = w' := by
  obtain ⟨F, h1, h2⟩ := h.ex
  exact nLen_c h1
theorem Sn.to_in (h : Sn w0 w g L) {i : Nat} {m : Msg} (hi : L[i]? = some m) : Calls Tryd.prog 18 #[.pointer (some ⟨g, 0, none⟩), .int .i64 i] w fun e w' => e = .returned (.int .i64 m.dst) ∧ w = w' := by
  obtain ⟨F, h1, h2⟩ := h.ex
  exact nTo_in h1 hi
theorem Sn.to_out (h : Sn w0 w g L) {i : Int} (hi : ¬ (0 ≤ i ∧ i < L.length)) : Calls Tryd.prog 18 #[.pointer (some ⟨g, 0, none⟩), .int .i64 i] w fun e w' => e = .returned (.int .i64 0) ∧ w = w' := by
  obtain ⟨F, h1, h2⟩ := h.ex
  exact nTo_out h1 hi
theorem Sn.look_in (h : Sn w0 w g L) {i : Nat} {m : Msg} (hi : L[i]? = some m) : Calls Tryd.prog 13 #[.pointer (some ⟨g, 0, none⟩), .int .i64 i] w fun e w' => ∃ A' c', e = .returned (.tuple #[.slice A' (PMsg.enc m).length c', .bool true]) ∧
      Ow w' w.heap.size 5 1 A' (PMsg.enc m).length c' (bs (PMsg.enc m)) ∧ Below w.heap.size w w' := by
  obtain ⟨F, h1, h2⟩ := h.ex
  exact (nLook_in h1 hi).mono fun e w' ⟨A', c', e1, e2, e3⟩ => ⟨A', c', e1, Ow.of_own e2, e3⟩
theorem Sn.look_out (h : Sn w0 w g L) {i : Int} (hi : ¬ (0 ≤ i ∧ i < L.length)) : Calls Tryd.prog 13 #[.pointer (some ⟨g, 0, none⟩), .int .i64 i] w fun e w' => e = .returned (.tuple #[.slice none 0 0, .bool false]) ∧ w = w' := by
  obtain ⟨F, h1, h2⟩ := h.ex
  exact nLook_out h1 hi
theorem Sn.take_in (h : Sn w0 w g L) {i : Nat} {m : Msg} (hi : L[i]? = some m) : Calls Tryd.prog 14 #[.pointer (some ⟨g, 0, none⟩), .int .i64 i] w fun e w' => ∃ A' c', e = .returned (.tuple #[.slice A' (PMsg.enc m).length c', .bool true]) ∧
      Ow w' w.heap.size 5 1 A' (PMsg.enc m).length c' (bs (PMsg.enc m)) ∧ Sn w0 w' g (PNet.del L i) ∧ NtT w w' := by
  obtain ⟨F, h1, h2⟩ := h.ex
  exact (nTake_in h1 hi).mono fun e w' ⟨A', c', e1, e2, e3⟩ => ⟨A', c', e1, e2, Sn.go h.bel h2 e3.wide, ⟨_, _, _, h1, e3.touch⟩⟩
theorem Sn.take_out (h : Sn w0 w g L) {i : Int} (hi : ¬ (0 ≤ i ∧ i < L.length)) : Calls Tryd.prog 14 #[.pointer (some ⟨g, 0, none⟩), .int .i64 i] w fun e w' => e = .returned (.tuple #[.slice none 0 0, .bool false]) ∧ w = w' := by
  obtain ⟨F, h1, h2⟩ := h.ex
  exact nTake_out h1 hi
theorem Sn.drop_in (h : Sn w0 w g L) {i : Nat} (hi : i < L.length) : Calls Tryd.prog 16 #[.pointer (some ⟨g, 0, none⟩), .int .i64 i] w fun e w' => e = .returned (.bool true) ∧ Sn w0 w' g (PNet.del L i) ∧ NtT w w' := by
  obtain ⟨F, h1, h2⟩ := h.ex
  exact (nDrop_in h1 hi).mono fun e w' ⟨e1, e3⟩ => ⟨e1, Sn.go h.bel h2 e3.wide, ⟨_, _, _, h1, e3.touch⟩⟩
theorem Sn.drop_out (h : Sn w0 w g L) {i : Int} (hi : ¬ (0 ≤ i ∧ i < L.length)) : Calls Tryd.prog 16 #[.pointer (some ⟨g, 0, none⟩), .int .i64 i] w fun e w' => e = .returned (.bool false) ∧ w = w' := by
  obtain ⟨F, h1, h2⟩ := h.ex
  exact nDrop_out h1 hi
theorem Sn.send (h : Sn w0 w g L) (ht : Tab w0) {base c : Nat} {A : Option Addr} {Q : List Mp} (hm : Ms w base A c Q) (hl : Q.length ≤ 100000) : Calls Tryd.prog 12 #[.pointer (some ⟨g, 0, none⟩), .slice A Q.length c] w fun e w' =>
    e = .returned (.int .i64 (((PNet.send L (Q.map Mp.m)).length : Int) - (L.length : Int))) ∧ Sn w0 w' g (PNet.send L (Q.map Mp.m)) ∧ NtT w w' := by
  obtain ⟨F, h1, h2⟩ := h.ex
  exact (nSend_c w g F L base A c Q h1 hm (h.tab ht) (fun hk => by have := h2 _ hk; have := ht.lt; omega) hl).mono fun e w' ⟨e1, e3⟩ => ⟨e1, Sn.go h.bel h2 e3, ⟨_, _, _, h1, e3.touch⟩⟩
end

def nOne : Msg := ⟨12, 1, 2, 1, 0, 0, 0, 0, [], 0, 0, 0, false⟩

set_option maxHeartbeats 4000000 in
set_option maxRecDepth 100000 in
theorem begunN_c (w : World) (ht : Tab w) : Calls Tryd.prog 8 #[] w fun x w' => x = .returned (.bool true) ∧ Below w.heap.size w w' := by
  have HT := Lib.hid ht
  have H1 := Lib.hid (show PMsg.may nOne = true by decide)
  have H2 := Lib.hid (show PMsg.may zeroM = false by decide)
  have HS := Lib.hid (show PNet.send [] [nOne, zeroM, nOne] = [nOne, nOne] by simp [PNet.send, PNet.put, H1.out, H2.out])
  have HB1 := Lib.hid (PMsg.enc_byte nOne)
  clear ht
  go_enter Tryd.func8, Tryd.ntmps8
  go_wp2_with fail
  refine (nNew_sn (Below.refl w.heap.size w)).mono ?_
  rintro e w1 ⟨rfl, s1, -⟩
  have K0 := Blk.new w1 #[.int .i64 12, .int .i64 1, .int .i64 2, .int .i64 1, .int .i64 0, .int .i64 0, .int .i64 0, .int .i64 0, .slice none 0 0, .int .i64 0, .int .i64 0, .int .i64 0, .bool false] 31
  have b2 := (Below.refl w1.heap.size w1).alloc (Nat.le_refl _) (.cells #[.int .i64 12, .int .i64 1, .int .i64 2, .int .i64 1, .int .i64 0, .int .i64 0, .int .i64 0, .int .i64 0, .slice none 0 0, .int .i64 0, .int .i64 0, .int .i64 0, .bool false] 31)
  have S2 := Lib.hid (s1.past b2)
  have K2 := Lib.hid (show Blk (w1.alloc (.cells #[.int .i64 12, .int .i64 1, .int .i64 2, .int .i64 1, .int .i64 0, .int .i64 0, .int .i64 0, .int .i64 0, .slice none 0 0, .int .i64 0, .int .i64 0, .int .i64 0, .bool false] 31)) w1.heap.size 31 (mcs nOne none 0) from K0)
  clear s1 K0 b2
  go_wp2_with fail
  have M3 := Lib.hid (show Ms ((w1.alloc (.cells #[.int .i64 12, .int .i64 1, .int .i64 2, .int .i64 1, .int .i64 0, .int .i64 0, .int .i64 0, .int .i64 0, .slice none 0 0, .int .i64 0, .int .i64 0, .int .i64 0, .bool false] 31)).alloc (.cells #[.int .i64 12, .int .i64 1, .int .i64 2, .int .i64 1, .int .i64 0, .int .i64 0, .int .i64 0, .int .i64 0, .slice none 0 0, .int .i64 0, .int .i64 0, .int .i64 0, .bool false, .int .i64 0, .int .i64 0, .int .i64 0, .int .i64 0, .int .i64 0, .int .i64 0, .int .i64 0, .int .i64 0, .slice none 0 0, .int .i64 0, .int .i64 0, .int .i64 0, .bool false, .int .i64 12, .int .i64 1, .int .i64 2, .int .i64 1, .int .i64 0, .int .i64 0, .int .i64 0, .int .i64 0, .slice none 0 0, .int .i64 0, .int .i64 0, .int .i64 0, .bool false] 31)) w.heap.size (some ⟨w1.heap.size + 1, 0, none⟩) 3 [⟨nOne, none, 0⟩, ⟨zeroM, none, 0⟩, ⟨nOne, none, 0⟩] from by
    have h := Ms.lit (w := w1.alloc (.cells #[.int .i64 12, .int .i64 1, .int .i64 2, .int .i64 1, .int .i64 0, .int .i64 0, .int .i64 0, .int .i64 0, .slice none 0 0, .int .i64 0, .int .i64 0, .int .i64 0, .bool false] 31)) (base := w.heap.size) (Q := [⟨nOne, none, 0⟩, ⟨zeroM, none, 0⟩, ⟨nOne, none, 0⟩]) #[.int .i64 12, .int .i64 1, .int .i64 2, .int .i64 1, .int .i64 0, .int .i64 0, .int .i64 0, .int .i64 0, .slice none 0 0, .int .i64 0, .int .i64 0, .int .i64 0, .bool false, .int .i64 0, .int .i64 0, .int .i64 0, .int .i64 0, .int .i64 0, .int .i64 0, .int .i64 0, .int .i64 0, .slice none 0 0, .int .i64 0, .int .i64 0, .int .i64 0, .bool false, .int .i64 12, .int .i64 1, .int .i64 2, .int .i64 1, .int .i64 0, .int .i64 0, .int .i64 0, .int .i64 0, .slice none 0 0, .int .i64 0, .int .i64 0, .int .i64 0, .bool false] rfl S2.out.bel.size (by decide)
      (fun q hq => by
        simp only [List.mem_cons, List.not_mem_nil, or_false] at hq
        rcases hq with rfl | rfl | rfl <;> exact Ow.nil _ _ _ _)
      (fun q hq => by
        simp only [List.mem_cons, List.not_mem_nil, or_false] at hq
        rcases hq with rfl | rfl | rfl <;> decide)
    rw [show (w1.alloc (.cells #[.int .i64 12, .int .i64 1, .int .i64 2, .int .i64 1, .int .i64 0, .int .i64 0, .int .i64 0, .int .i64 0, .slice none 0 0, .int .i64 0, .int .i64 0, .int .i64 0, .bool false] 31)).heap.size = w1.heap.size + 1 by simp] at h
    exact h)
  have b3 := (Below.refl (w1.alloc (.cells #[.int .i64 12, .int .i64 1, .int .i64 2, .int .i64 1, .int .i64 0, .int .i64 0, .int .i64 0, .int .i64 0, .slice none 0 0, .int .i64 0, .int .i64 0, .int .i64 0, .bool false] 31)).heap.size (w1.alloc (.cells #[.int .i64 12, .int .i64 1, .int .i64 2, .int .i64 1, .int .i64 0, .int .i64 0, .int .i64 0, .int .i64 0, .slice none 0 0, .int .i64 0, .int .i64 0, .int .i64 0, .bool false] 31))).alloc (Nat.le_refl _) (.cells #[.int .i64 12, .int .i64 1, .int .i64 2, .int .i64 1, .int .i64 0, .int .i64 0, .int .i64 0, .int .i64 0, .slice none 0 0, .int .i64 0, .int .i64 0, .int .i64 0, .bool false, .int .i64 0, .int .i64 0, .int .i64 0, .int .i64 0, .int .i64 0, .int .i64 0, .int .i64 0, .int .i64 0, .slice none 0 0, .int .i64 0, .int .i64 0, .int .i64 0, .bool false, .int .i64 12, .int .i64 1, .int .i64 2, .int .i64 1, .int .i64 0, .int .i64 0, .int .i64 0, .int .i64 0, .slice none 0 0, .int .i64 0, .int .i64 0, .int .i64 0, .bool false] 31)
  have S3 := Lib.hid (S2.out.past b3)
  have K3 := Lib.hid (K2.out.past b3)
  clear b3 S2 K2
  generalize (w1.alloc (.cells #[.int .i64 12, .int .i64 1, .int .i64 2, .int .i64 1, .int .i64 0, .int .i64 0, .int .i64 0, .int .i64 0, .slice none 0 0, .int .i64 0, .int .i64 0, .int .i64 0, .bool false] 31)).alloc (.cells #[.int .i64 12, .int .i64 1, .int .i64 2, .int .i64 1, .int .i64 0, .int .i64 0, .int .i64 0, .int .i64 0, .slice none 0 0, .int .i64 0, .int .i64 0, .int .i64 0, .bool false, .int .i64 0, .int .i64 0, .int .i64 0, .int .i64 0, .int .i64 0, .int .i64 0, .int .i64 0, .int .i64 0, .slice none 0 0, .int .i64 0, .int .i64 0, .int .i64 0, .bool false, .int .i64 12, .int .i64 1, .int .i64 2, .int .i64 1, .int .i64 0, .int .i64 0, .int .i64 0, .int .i64 0, .slice none 0 0, .int .i64 0, .int .i64 0, .int .i64 0, .bool false] 31) = w3 at *
  refine (show Calls Tryd.prog 12 #[.pointer (some ⟨w.heap.size, 0, none⟩), .slice (some ⟨w1.heap.size + 1, 0, none⟩) 3 3] w3 (fun e w' => e = .returned (.int .i64 2) ∧ Sn w w' w.heap.size [nOne, nOne] ∧ NtT w3 w') from (S3.out.send HT.out M3.out (by decide)).mono fun e w' ⟨h1, h2, h3⟩ => by
    have hs : PNet.send [] (List.map Mp.m [⟨nOne, none, 0⟩, ⟨zeroM, none, 0⟩, ⟨nOne, none, 0⟩]) = [nOne, nOne] := HS.out
    rw [hs] at h1 h2
    exact ⟨h1, h2, h3⟩).mono ?_
  rintro e w4 ⟨rfl, s4, n4⟩
  have K4 := Lib.hid (n4.blk K3.out (by decide) (by decide) (by decide))
  have HB4 := Lib.hid s4.bel
  obtain ⟨F4, h1, h2⟩ := s4.ex
  have N4 := Lib.hid h1
  have HF4 := Lib.hid h2
  clear s4 n4 h1 h2 K3 S3 M3
  go_wp2_with fail
  refine (nTake_in (i := 0) (m := nOne) N4.out rfl).mono ?_
  rintro e w5 ⟨A5, c5, rfl, o5, d5⟩
  obtain ⟨⟨F5, n5, hF5⟩, t5⟩ := d5
  have N5 := Lib.hid (show Nt w5 w.heap.size F5 [nOne] from n5)
  have O5 := Lib.hid o5
  have XA5 := Lib.hid (show ∀ s ∈ F5, bk A5 ≠ some s from fun s hs hk => by
    have h1 := N4.out.hi s (hF5 s hs)
    have h2 := O5.out.low s hk
    omega)
  have K5 := Lib.hid (K4.out.touch t5 (N4.out.apart K4.out (by decide) (by decide) (by decide)))
  have HK5 := Lib.hid (show w1.heap.size ∉ F5 from N5.out.apart K5.out (by decide) (by decide) (by decide))
  have B5 := Lib.hid (HB4.out.trans (t5.below HF4.out HB4.out.size))
  have HF5 := Lib.hid (show ∀ s ∈ F5, w.heap.size ≤ s from fun s hs => HF4.out s (hF5 s hs))
  clear o5 n5 hF5 t5 K4 N4 HF4 HB4
  go_wp2_with fail
-- REGION curfew/curfewlaw18.begun 7 nbegun7 2
  refine Hs.begin (F5) ?_
  refine Hs.take (v := .int .i64 2) 0 21 rfl ?_ (fun _ _ => rfl)
  refine Hs.take (v := .bool true) 1 22 rfl ?_ (fun w' hw' => by go_simp; first | done | rfl | omega | exact wrap_in (by omega) (by omega) | exact Int.tmod_eq_emod_of_nonneg (by omega) | exact Int.tdiv_eq_ediv_of_nonneg (by omega) | (simp; omega))
  refine Hs.take (v := .bool true) 2 23 rfl ?_ (fun _ _ => rfl)
  refine Hs.take (v := .pointer (some ⟨w.heap.size, 0, none⟩)) 3 24 rfl ?_ (fun _ _ => rfl)
  refine Hs.call (f := 18) (args := #[.pointer (some ⟨w.heap.size, 0, none⟩), .int .i64 0]) 4 25 rfl ?_ (run_callf Tryd.func18 (by kernel_rfl) (by kernel_rfl) (by simp only [List.map_toArray, List.map_cons, List.map_nil]; rfl))
  refine (nTo_in (i := 0) (m := nOne) N5.out.drew rfl).mono ?_
  rintro x w6 ⟨rfl, rfl⟩
  refine Hs.back (Touch.refl _ _) ?_
  refine Hs.take (v := .bool true) 5 26 rfl ?_ (fun w' hw' => by go_simp; first | done | rfl | omega | exact wrap_in (by omega) (by omega) | exact Int.tmod_eq_emod_of_nonneg (by omega) | exact Int.tdiv_eq_ediv_of_nonneg (by omega) | (simp; omega))
  refine Hs.take (v := .bool true) 6 27 rfl ?_ (fun _ _ => rfl)
  refine Hs.take (v := .bool true) 7 28 rfl ?_ (fun _ _ => rfl)
  refine Hs.take (v := .bool true) 8 29 rfl ?_ (fun _ _ => rfl)
  refine Hs.take (v := .bool true) 9 30 rfl ?_ (fun _ _ => rfl)
  refine Hs.take (v := .bool true) 10 31 rfl ?_ (fun _ _ => rfl)
  refine Hs.take (v := .slice A5 (PMsg.enc nOne).length c5) 11 32 rfl ?_ (fun _ _ => rfl)
  refine Hs.take (v := .string (strOfNums (PMsg.enc nOne))) 12 33 rfl ?_ (fun w' hw' => by exact run_toStrOp 5 rfl (Ow.touch (show Ow w5.drew _ _ _ _ _ _ _ from O5.out) hw' XA5.out).rd Tryd.underlying35 Tryd.underlying5 Tryd.underlying9)
  refine Hs.take (v := mv nOne none 0) 13 34 rfl ?_ (fun w' hw' => by exact run_loadM (Blk.touch (show Blk w5.drew _ _ _ from K5.out) hw' HK5.out) rfl)
  refine Hs.call (f := 15) (args := #[mv nOne none 0]) 14 35 rfl ?_ (run_callf Tryd.func15 (by kernel_rfl) (by kernel_rfl) (by simp only [List.map_toArray, List.map_cons, List.map_nil]; rfl))
  refine (rBytes_c w5.drew nOne none 0 (Rd.nil _ _ _)).mono ?_
  rintro x w6 ⟨A6, c6, rfl, o6, b6⟩
  have O6 := Lib.hid (Ow.of_own o6)
  have N6 := Lib.hid (N5.out.drew.past b6)
  have XA6 := Lib.hid (show ∀ s ∈ F5, bk A6 ≠ some s from fun s hs hk => by
  have h1 := N5.out.hi s hs
  have h2 := O6.out.low s hk
  have h3 : w5.drew.heap.size = w5.heap.size := rfl
  omega)
  have B6 := Lib.hid (B5.out.trans ((Below.refl _ _).drew.trans (b6.mono (Nat.le_refl _)) |>.mono B5.out.size))
  refine Hs.back (.of_below b6) ?_
  clear o6 b6
  refine Hs.take (v := .string (strOfNums (PMsg.enc nOne))) 15 36 rfl ?_ (fun w' hw' => by exact run_toStrOp 5 rfl (O6.out.touch hw' XA6.out).rd Tryd.underlying35 Tryd.underlying5 Tryd.underlying9)
  refine Hs.take (v := .bool true) 16 37 rfl ?_ (fun w' hw' => by exact run_strEq rfl rfl (by simp))
  refine Hs.take (v := .bool true) 17 38 rfl ?_ (fun _ _ => rfl)
  refine Hs.take (v := .bool true) 18 39 rfl ?_ (fun _ _ => rfl)
  refine Hs.take (v := .pointer (some ⟨w.heap.size, 0, none⟩)) 19 40 rfl ?_ (fun _ _ => rfl)
  refine Hs.call (f := 17) (args := #[.pointer (some ⟨w.heap.size, 0, none⟩)]) 20 41 rfl ?_ (run_callf Tryd.func17 (by kernel_rfl) (by kernel_rfl) (by simp only [List.map_toArray, List.map_cons, List.map_nil]; rfl))
  refine (nLen_c N6.out).mono ?_
  rintro x w7 ⟨rfl, rfl⟩
  refine Hs.back (Touch.refl _ _) ?_
  refine Hs.take (v := .bool true) 21 42 rfl ?_ (fun w' hw' => by go_simp; first | done | rfl | omega | exact wrap_in (by omega) (by omega) | exact Int.tmod_eq_emod_of_nonneg (by omega) | exact Int.tdiv_eq_ediv_of_nonneg (by omega) | (simp; omega))
  refine Hs.take (v := .bool true) 22 43 rfl ?_ (fun _ _ => rfl)
  refine Hs.take (v := .bool true) 23 44 rfl ?_ (fun _ _ => rfl)
  refine Hs.take (v := .pointer (some ⟨w.heap.size, 0, none⟩)) 24 45 rfl ?_ (fun _ _ => rfl)
  refine Hs.call (f := 16) (args := #[.pointer (some ⟨w.heap.size, 0, none⟩), .int .i64 0]) 25 46 rfl ?_ (run_callf Tryd.func16 (by kernel_rfl) (by kernel_rfl) (by simp only [List.map_toArray, List.map_cons, List.map_nil]; rfl))
  refine (nDrop_in (i := 0) N6.out (by decide)).mono ?_
  rintro x w7 ⟨rfl, d7⟩
  have D7 := Lib.hid d7
  obtain ⟨⟨F7, n7, -⟩, t7⟩ := d7
  have N7 := Lib.hid n7
  refine Hs.back t7 ?_
  clear n7 t7
  refine Hs.take (v := .bool true) 26 47 rfl ?_ (fun _ _ => rfl)
  refine Hs.take (v := .bool true) 27 48 rfl ?_ (fun _ _ => rfl)
  refine Hs.take (v := .pointer (some ⟨w.heap.size, 0, none⟩)) 28 49 rfl ?_ (fun _ _ => rfl)
  refine Hs.call (f := 16) (args := #[.pointer (some ⟨w.heap.size, 0, none⟩), .int .i64 0]) 29 50 rfl ?_ (run_callf Tryd.func16 (by kernel_rfl) (by kernel_rfl) (by simp only [List.map_toArray, List.map_cons, List.map_nil]; rfl))
  refine (nDrop_out (i := 0) N7.out (by decide)).mono ?_
  rintro x w8 ⟨rfl, rfl⟩
  refine Hs.back (Touch.refl _ _) ?_
  refine Hs.take (v := .bool true) 30 51 rfl ?_ (fun w' hw' => by go_simp; first | done | rfl | omega | exact wrap_in (by omega) (by omega) | exact Int.tmod_eq_emod_of_nonneg (by omega) | exact Int.tdiv_eq_ediv_of_nonneg (by omega) | (simp; omega))
  refine Hs.take (v := .bool true) 31 52 rfl ?_ (fun _ _ => rfl)
  refine Hs.take (v := .bool true) 32 0 rfl ?_ (fun _ _ => rfl)
  refine Hs.done ?_
-- END
  go_wp2_with fail
  go_ret
  exact ⟨rfl, B6.out.trans (D7.out.touch.below HF5.out B6.out.size)⟩
end Go.Proofs.YtkckibcfanaglaaDoor

/- Contract of the statements' Cut. -/
namespace Go.Proofs.YtkckibcfanaglaaDoor
open Go.RowKit

theorem Cut_c (w : World) (s : ByteArray) (k : Int) (h0 : 0 ≤ k) :
    Calls Tryd.prog 37 #[.string s, .int .i64 k] w fun e w' => ∃ t : ByteArray, e = .returned (.string t) ∧ w = w' ∧ (t.size : Int) ≤ k ∧ t.size ≤ s.size := by
  obtain ⟨m, rfl⟩ := Int.eq_ofNat_of_zero_le h0
  by_cases hlt : m < s.size
  · go_enter Tryd.func37, Tryd.ntmps37
    go_wp2
    go_ret
    exact ⟨_, rfl, rfl, by simp; omega, by simp; omega⟩
  · go_enter Tryd.func37, Tryd.ntmps37
    go_wp2
    go_ret
    exact ⟨s, rfl, rfl, by omega, by omega⟩

end Go.Proofs.YtkckibcfanaglaaDoor

/- Contracts of the statements' Cut, Entries. -/
namespace Go.Proofs.YtkckibcfanaglaaDoor
open Go.RowKit

set_option maxRecDepth 100000 in
theorem lCut_c (w : World) (e : Ent) : Calls Tryd.prog 29 #[ev e] w fun x w' => ∃ t : ByteArray, x = .returned (ev ⟨e.fr, e.boot, e.seq, e.ord, e.lev, e.stamp, t⟩) ∧ t.size ≤ 20 ∧ t.size ≤ e.data.size ∧ Below w.heap.size w w' := by
  obtain ⟨fr, boot, seq, ord, lev, stamp, data⟩ := e
  show Calls _ _ #[.agg #[.int .i64 fr, .int .i64 boot, .int .i64 seq, .int .i64 ord, .int .i64 lev, .int .i64 stamp, .string data]] _ _
  go_enter Tryd.func29, Tryd.ntmps29
  go_wp2_with fail
  refine (Cut_c _ data 20 (by omega)).mono ?_
  rintro x w1 ⟨t, rfl, rfl, ht1, ht2⟩
  go_wp2_with fail
  have K := Blk.newEnt (w.alloc (.cells #[.int .i64 fr, .int .i64 boot, .int .i64 seq, .int .i64 ord, .int .i64 lev, .int .i64 stamp, .string t] 53)) 53 ⟨fr, boot, seq, ord, lev, stamp, t⟩
  rw [show (w.alloc (.cells #[.int .i64 fr, .int .i64 boot, .int .i64 seq, .int .i64 ord, .int .i64 lev, .int .i64 stamp, .string t] 53)).heap.size = w.heap.size + 1 by simp] at K
  refine bodyPost_ret (v := ev ⟨fr, boot, seq, ord, lev, stamp, t⟩) (results_cell_row rfl _ _ (w.heap.size + 1) _ _ _ _ rfl K Tryd.underlying53 rfl (by kernel_rfl)) rfl ⟨t, rfl, by omega, ht2, ((Below.refl _ _).alloc (Nat.le_refl _) _).alloc (by simp) _⟩

/-- What is known of an entry of a law's own: its numbers are int64s, its text is short. -/
structure EntSm (e : Ent) : Prop where
  fit : PEnt.Fit e
  sz : e.data.size ≤ 20

set_option maxHeartbeats 4000000 in
set_option maxRecDepth 100000 in
theorem lEntries_c (w : World) (A : Option Addr) (c n : Nat) (l : List Ent) (k : Int) (h : Rd w w.heap.size A c 7 n (els l)) (hok : ∀ e ∈ l, EntOk e) (h0 : 0 ≤ k) (hk : k ≤ 1000) :
    Calls Tryd.prog 19 #[.slice A n c, .int .i64 k] w fun x w' => ∃ (A' : Option Addr) (c' : Nat) (es : List Ent), x = .returned (.slice A' es.length c') ∧ es.length = min n k.toNat ∧
      w'.ownsRow w.heap.size 53 7 (.slice A' es.length c') es.length (els es) ∧ (∀ e ∈ es, EntSm e) ∧ Below w.heap.size w w' := by
  obtain ⟨m, rfl⟩ := Int.eq_ofNat_of_zero_le h0
  have hcap := h.cap
  have hle := h.le
  have hn : n ≤ 9223372036854775807 := by unfold maxLen at hcap; omega
  have R0 := Lib.hid h
  have HOK := Lib.hid hok
  clear h hok hcap hle
  go_enter Tryd.func19, Tryd.ntmps19
  go_wp2_with fail
  go_loopw [5, 6] (fun s5 s6 wr => ∃ (i c' : Nat) (A' : Option Addr) (es : List Ent), i ≤ n ∧ i ≤ m ∧ s6 = .int .i64 i ∧ s5 = .slice A' i c' ∧ Hid (es.length = i) ∧
      Hid (wr.ownsRow w.heap.size 53 7 (.slice A' i c') i (els es)) ∧ Hid (∀ e ∈ es, EntSm e) ∧ Hid (Below w.heap.size w wr))
    (fun _ s6 _ => n - (intOf s6).toNat)
  case atStart => exact ⟨0, 0, none, [], by omega, by omega, rfl, rfl, Lib.hid rfl, Lib.hid (World.ownsRow_nil _ _ _ _), Lib.hid (by simp), Lib.hid (Below.refl _ _)⟩
  case round =>
    obtain ⟨i, c1, A1, es, hin, him, rfl, rfl, HL, O, HS, BL⟩ := hrel
    have fin : min n m = i → ∃ (A' : Option Addr) (c' : Nat) (es' : List Ent), Ending.returned (.slice A1 i c1) = .returned (.slice A' es'.length c') ∧ es'.length = min n ((m : Nat) : Int).toNat ∧
      wr.ownsRow w.heap.size 53 7 (.slice A' es'.length c') es'.length (els es') ∧ (∀ e ∈ es', EntSm e) ∧ Below w.heap.size w wr := by
      intro hm
      refine ⟨A1, c1, es, by rw [HL.out], by rw [HL.out, Int.toNat_natCast, hm], ?_, HS.out, BL.out⟩
      rw [HL.out]; exact O.out
    have FIN := Lib.hid fin
    clear fin
    by_cases h1 : i < n
    · by_cases h2 : i < m
      · obtain ⟨b, o, e, rfl, -, he, hmem, d0, d1, d2, d3, d4, d5, d6⟩ := (R0.out.below BL.out).ent h1
        have hE := HOK.out e hmem
        have HE := Lib.hid hE
        clear he hmem hE FIN
        go_wp2_with fail
        clear d0 d1 d2 d3 d4 d5 d6
        refine (lCut_c wr e).mono ?_
        simp only [ev]
        rintro x w1 ⟨t, rfl, ht1, ht2, b1⟩
        have HSm := Lib.hid (show EntSm ⟨e.fr, e.boot, e.seq, e.ord, e.lev, e.stamp, t⟩ from ⟨⟨HE.out.fit.f0, HE.out.fit.f1, HE.out.fit.f2, HE.out.fit.f3, HE.out.fit.f4, HE.out.fit.f5⟩, ht1⟩)
        have B1 := Lib.hid (BL.out.trans (b1.mono BL.out.size))
        have O1 := Lib.hid (own_below O.out b1)
        clear b1 O BL ht1 ht2
        go_wp2_with (at_builtin; go_must (refine wpList_pushes rfl (.tmp 18) (.tmp 24) _ rfl w.heap.size 53 (ev zeroE) 7 64 1 Tryd.underlying29 ent_info rfl (by omega) rfl (by unfold maxLen; omega) A1 c1 i (els es) rfl O1.out rfl ?h1 ?h2 ?h3 ?h4 ?_))
        case h1 => exact ⟨rfl, rfl, rfl, rfl, rfl, rfl, rfl⟩
        case h2 => unfold maxLen; omega
        case h3 => omega
        case h4 => exact B1.out.size
        intro A2 c2 w2 hown2 hg2 hb2
        have B2 := Lib.hid (B1.out.trans hb2)
        have O2 := Lib.hid (show w2.ownsRow w.heap.size 53 7 (.slice A2 (i + 1) c2) (i + 1) (els (es ++ [⟨e.fr, e.boot, e.seq, e.ord, e.lev, e.stamp, t⟩])) by rw [els_append]; exact hown2)
        clear hown2 hg2 hb2 B1 O1
        go_wp2_with fail
        go_roundw
        case rel => exact ⟨i + 1, c2, A2, es ++ [⟨e.fr, e.boot, e.seq, e.ord, e.lev, e.stamp, t⟩], by omega, by omega, by go_num, rfl, Lib.hid (by simp [HL.out]), O2, Lib.hid (fun y hy => by
          rcases List.mem_append.1 hy with hy | hy
          · exact HS.out y hy
          · rw [List.mem_singleton.1 hy]; exact HSm.out), B2⟩
        case measure => simp [intOf]; omega
      · go_wp2_with fail
        go_ret
        exact FIN.out (by omega)
    · go_wp2_with fail
      go_ret
      exact FIN.out (by omega)

end Go.Proofs.YtkckibcfanaglaaDoor

/- The statements' Cut of a message. -/
namespace Go.Proofs.YtkckibcfanaglaaDoor
open Go.RowKit

/-- What is owned, behind a write of a block of another type. -/
theorem own_apartB {w w' : World} {base k n g : Nat} {e t : TypeId} {v : Value} {xs ys : List Value} (h : w.ownsRow base e k v n xs) (K : Blk w g t ys) (hne : t ≠ e) (hg : w.grownBy w' (some g)) : w'.ownsRow base e k v n xs :=
  own_touch h (Touch.of_grown hg) (fun s hs zs hz => by
    obtain rfl := List.mem_singleton.1 hs
    exact K.ne hz hne rfl)
/-- The same message with other entries. -/
def withE (m : Msg) (es : List Ent) : Msg := { m with es := es }
set_option maxHeartbeats 4000000 in
set_option maxRecDepth 100000 in
theorem lCutM_c (w : World) (m : Msg) (A : Option Addr) (c : Nat) (h : Rd w w.heap.size A c 7 m.es.length (els m.es)) (hok : ∀ e ∈ m.es, EntOk e) :
    Calls Tryd.prog 10 #[mv m A c] w fun x w' => ∃ (A' : Option Addr) (c' : Nat) (es : List Ent), x = .returned (mv (withE m es) A' c') ∧ es.length ≤ 62 ∧
      w'.ownsRow w.heap.size 53 7 (.slice A' es.length c') es.length (els es) ∧ (∀ e ∈ es, EntSm e) ∧ Below w.heap.size w w' := by
  have b1 := ((Below.refl w.heap.size w).alloc (Nat.le_refl _) (.cells #[.int .i64 m.kind, .int .i64 m.fr, .int .i64 m.dst, .int .i64 m.boot, .int .i64 m.view, .int .i64 m.last, .int .i64 m.mem, .int .i64 m.pos, .slice A m.es.length c, .int .i64 m.com, .int .i64 m.num, .int .i64 m.clk, .bool m.yes] 31)).alloc (by simp) (.cells #[.int .i64 0, .int .i64 0, .int .i64 0, .int .i64 0, .int .i64 0, .int .i64 0, .int .i64 0, .int .i64 0, .slice none 0 0, .int .i64 0, .int .i64 0, .int .i64 0, .bool false] 31)
  have K0 := (Blk.new w #[.int .i64 m.kind, .int .i64 m.fr, .int .i64 m.dst, .int .i64 m.boot, .int .i64 m.view, .int .i64 m.last, .int .i64 m.mem, .int .i64 m.pos, .slice A m.es.length c, .int .i64 m.com, .int .i64 m.num, .int .i64 m.clk, .bool m.yes] 31).alloc (.cells #[.int .i64 0, .int .i64 0, .int .i64 0, .int .i64 0, .int .i64 0, .int .i64 0, .int .i64 0, .int .i64 0, .slice none 0 0, .int .i64 0, .int .i64 0, .int .i64 0, .bool false] 31)
  have Z0 := Blk.new (w.alloc (.cells #[.int .i64 m.kind, .int .i64 m.fr, .int .i64 m.dst, .int .i64 m.boot, .int .i64 m.view, .int .i64 m.last, .int .i64 m.mem, .int .i64 m.pos, .slice A m.es.length c, .int .i64 m.com, .int .i64 m.num, .int .i64 m.clk, .bool m.yes] 31)) #[.int .i64 0, .int .i64 0, .int .i64 0, .int .i64 0, .int .i64 0, .int .i64 0, .int .i64 0, .int .i64 0, .slice none 0 0, .int .i64 0, .int .i64 0, .int .i64 0, .bool false] 31
  rw [show (w.alloc (.cells #[.int .i64 m.kind, .int .i64 m.fr, .int .i64 m.dst, .int .i64 m.boot, .int .i64 m.view, .int .i64 m.last, .int .i64 m.mem, .int .i64 m.pos, .slice A m.es.length c, .int .i64 m.com, .int .i64 m.num, .int .i64 m.clk, .bool m.yes] 31)).heap.size = w.heap.size + 1 by simp] at Z0
  have R0 := Lib.hid h
  have HO := Lib.hid hok
  clear h hok
  show Calls _ _ #[.agg #[.int .i64 m.kind, .int .i64 m.fr, .int .i64 m.dst, .int .i64 m.boot, .int .i64 m.view, .int .i64 m.last, .int .i64 m.mem, .int .i64 m.pos, .slice A m.es.length c, .int .i64 m.com, .int .i64 m.num, .int .i64 m.clk, .bool m.yes]] _ _
  go_enter Tryd.func10, Tryd.ntmps10
  go_wp2_with fail
  have hs : ((w.alloc (.cells #[.int .i64 m.kind, .int .i64 m.fr, .int .i64 m.dst, .int .i64 m.boot, .int .i64 m.view, .int .i64 m.last, .int .i64 m.mem, .int .i64 m.pos, .slice A m.es.length c, .int .i64 m.com, .int .i64 m.num, .int .i64 m.clk, .bool m.yes] 31)).alloc (.cells #[.int .i64 0, .int .i64 0, .int .i64 0, .int .i64 0, .int .i64 0, .int .i64 0, .int .i64 0, .int .i64 0, .slice none 0 0, .int .i64 0, .int .i64 0, .int .i64 0, .bool false] 31)).heap.size = w.heap.size + 2 := by simp
  generalize (w.alloc (.cells #[.int .i64 m.kind, .int .i64 m.fr, .int .i64 m.dst, .int .i64 m.boot, .int .i64 m.view, .int .i64 m.last, .int .i64 m.mem, .int .i64 m.pos, .slice A m.es.length c, .int .i64 m.com, .int .i64 m.num, .int .i64 m.clk, .bool m.yes] 31)).alloc (.cells #[.int .i64 0, .int .i64 0, .int .i64 0, .int .i64 0, .int .i64 0, .int .i64 0, .int .i64 0, .int .i64 0, .slice none 0 0, .int .i64 0, .int .i64 0, .int .i64 0, .bool false] 31) = w1 at *
  have BL1 := Lib.hid b1
  have K1 := Lib.hid (show Blk w1 w.heap.size 31 (mcs m A c) from K0)
  have Z1 := Lib.hid (show Blk w1 (w.heap.size + 1) 31 (mcs zeroM none 0) from Z0)
  clear b1 K0 Z0 hs
  refine (lEntries_c w1 A c m.es.length m.es 62 ((R0.out.past BL1.out).tight) HO.out (by omega) (by omega)).mono ?_
  rintro x w2 ⟨A2, c2, es, rfl, hl, hown, hsm, b2⟩
  have BL2 := Lib.hid (BL1.out.trans (b2.mono BL1.out.size))
  have K2 := Lib.hid (K1.out.past b2)
  have Z2 := Lib.hid (Z1.out.past b2)
  have O2 := Lib.hid (own_from hown BL1.out.size)
  have HSM := Lib.hid hsm
  have HL := Lib.hid (show es.length ≤ 62 by rw [hl]; have : (62 : Int).toNat = 62 := rfl; omega)
  have HW := Lib.hid (show 0 < es.length → ∃ g, A2 = some ⟨g, 0, none⟩ ∧ w1.heap.size ≤ g from fun h0 => by obtain ⟨g, e, hg, _⟩ := own_some hown h0; exact ⟨g, e, hg⟩)
  have k8 := K2.out.cell (i := 8) rfl
  have f8 := K2.out.free 8
  have K3 := Lib.hid (show Blk (w2.setCell ⟨w.heap.size, 8, none⟩ (.slice A2 es.length c2)) w.heap.size 31 (mcs (withE m es) A2 c2) from K2.out.set 8 (.slice A2 es.length c2))
  have G3 := grown_set w2 w.heap.size 8 (.slice A2 es.length c2)
  have Z3 := Lib.hid (Z2.out.far G3 (by omega))
  have BL3 := Lib.hid (BL2.out.trans (grown_below G3 (Nat.le_refl _) BL2.out.size))
  have hZ1 := Z1.out.lt
  have O3 := Lib.hid (own_apartB O2.out K2.out (by decide) G3)
  clear hown hsm b2 K1 Z1 BL1 K2 Z2 BL2 hl G3 hZ1 O2
  go_wp2_with (first
    | ((with_reducible show wpList _ _ _ ((⟨some 7, Op.load _ _, _, _, _, _⟩ : Oper) :: _) _ _); go_must (refine wpList_load_row rfl 31 (.tmp 1) rfl w.heap.size rfl 31 #[.int .i64 m.kind, .int .i64 m.fr, .int .i64 m.dst, .int .i64 m.boot, .int .i64 m.view, .int .i64 m.last, .int .i64 m.mem, .int .i64 m.pos, .slice A2 es.length c2, .int .i64 m.com, .int .i64 m.num, .int .i64 m.clk, .bool m.yes] (0, 0) _ K3.out Tryd.underlying31 rfl (by kernel_rfl) ?_))
    | ((with_reducible show wpList _ _ _ ((⟨none, Op.store 31 (.tmp 2) _, _, _, _, _⟩ : Oper) :: _) _ _); go_must (refine wpList_store_row rfl 31 (.tmp 2) (.tmp 7) rfl (w.heap.size + 1) _ rfl rfl _ _ Z3.out (by kernel_rfl) (by rfl) (by kernel_rfl) ?_)))
  have Z4 := Z3.out.row #[.int .i64 m.kind, .int .i64 m.fr, .int .i64 m.dst, .int .i64 m.boot, .int .i64 m.view, .int .i64 m.last, .int .i64 m.mem, .int .i64 m.pos, .slice A2 es.length c2, .int .i64 m.com, .int .i64 m.num, .int .i64 m.clk, .bool m.yes]
  have G4 := grown_row (w2.setCell ⟨w.heap.size, 8, none⟩ (.slice A2 es.length c2)) (w.heap.size + 1) #[.int .i64 m.kind, .int .i64 m.fr, .int .i64 m.dst, .int .i64 m.boot, .int .i64 m.view, .int .i64 m.last, .int .i64 m.mem, .int .i64 m.pos, .slice A2 es.length c2, .int .i64 m.com, .int .i64 m.num, .int .i64 m.clk, .bool m.yes]
  refine bodyPost_ret (v := mv (withE m es) A2 c2) (results_cell_row rfl _ _ (w.heap.size + 1) _ _ _ _ rfl Z4 Tryd.underlying31 rfl (by kernel_rfl)) rfl ⟨A2, c2, es, rfl, HL.out, own_apartB O3.out Z3.out (by decide) G4, HSM.out, BL3.out.trans (grown_below G4 (Nat.le_succ _) BL3.out.size)⟩
end Go.Proofs.YtkckibcfanaglaaDoor

/- Small words for the laws of net: one message taken out of a row; pings; how many are sent. -/
namespace Go.Proofs.YtkckibcfanaglaaDoor
open Go.RowKit

theorem nMsg_info : (Tryd.prog.info? 31).map (fun i => (i.zero, i.size, i.bytes)) = some (some (mv zeroM none 0), 13, 120) := by kernel_rfl

namespace PNet
theorem send_all {L ms : List Msg} (h : L.length ≤ 400) (hm : ∀ m ∈ ms, PMsg.may m = true) : (send L ms).length = min 400 (L.length + ms.length) := by
  induction ms generalizing L with
  | nil => simp [send_nil]; omega
  | cons m r ih =>
    rw [send_cons]
    have h1 := hm m (List.mem_cons_self ..)
    have h2 : ∀ x ∈ r, PMsg.may x = true := fun x hx => hm x (List.mem_cons_of_mem _ hx)
    by_cases hf : 400 ≤ L.length
    · rw [put_full hf, ih h h2, List.length_cons]; omega
    · rw [put_yes (by omega) h1, ih (by simp; omega) h2, List.length_append, List.length_cons, List.length_cons, List.length_nil]; omega
theorem send_one {L : List Msg} {m : Msg} : send L [m] = put L m := rfl
end PNet

/-- A ping. -/
def ping (a b n : Int) : Msg := ⟨12, a, b, 1, 0, 0, 0, 0, [], 0, n, 0, false⟩
theorem ping_may {a b n : Int} (ha : 1 ≤ a ∧ a ≤ 7) (hb : 1 ≤ b ∧ b ≤ 7) (hab : a ≠ b) (hn : 0 ≤ n ∧ n ≤ 1099511627776) : PMsg.may (ping a b n) = true := by
  rw [PMsg.may_iff]
  unfold PMsg.May ping
  simp only [List.all_nil, List.length_nil]
  exact ⟨by omega, ha, hb, hab, by omega, by omega, by omega, by omega, by omega, by omega, hn, by omega, by omega, trivial⟩

section
variable {w w' : World} {base c i : Nat} {A : Option Addr} {Q : List Mp}
/-- 'l[:i:i]', 'l[i+1:]' of a row of messages; what is put together of both. -/
theorem Ms.head (h : Ms w base A c Q) (hi : i ≤ Q.length) : Ow w base 31 13 A i i (mgs (Q.take i)) := by
  have := h.row.head hi
  rwa [mgs_take] at this
theorem Ms.rest (h : Ms w base A c Q) (hi : i < Q.length) : Rd w w.heap.size (if c = i + 1 then A else A.map (·.add ((i + 1) * 13))) (c - (i + 1)) 13 (Q.length - (i + 1)) (mgs (Q.drop (i + 1))) := by
  have := h.row.rd.cut (l := i + 1) (m := Q.length) (by omega) (Nat.le_refl _)
  rw [mgs_drop, List.take_of_length_le (by rw [mgs_length, List.length_drop]; exact Nat.le_refl _)] at this
  exact this
theorem Ms.del {A2 : Option Addr} {c2 : Nat} (h : Ms w base A c Q) (hb : Below w.heap.size w w') (hi : i < Q.length) (O : Ow w' base 31 13 A2 (i + (Q.length - (i + 1))) c2 (mgs (Q.take i) ++ mgs (Q.drop (i + 1)))) : Ms w' base A2 c2 (Q.take i ++ Q.drop (i + 1)) := by
  refine h.part hb ?_ (fun q hq => ?_)
  · rw [mgs_append, show (Q.take i ++ Q.drop (i + 1)).length = i + (Q.length - (i + 1)) by simp; omega]
    exact O
  · rcases List.mem_append.1 hq with h1 | h1
    · exact List.mem_of_mem_take h1
    · exact List.mem_of_mem_drop h1
theorem Ms.cap (h : Ms w base A c Q) : Q.length ≤ c ∧ c ≤ 9223372036854775807 := by
  have := h.row.rd.cap
  unfold maxLen at this
  exact ⟨h.row.le, by omega⟩
theorem run_loadMr {dst : Option Tmp} {x : Operand} {ty : TypeId} {pos : String} {after : Array Edge} {guard : Option (Nat × Bool)} {ρ : Operand → Value} {b o : Nat} {m : Msg}
    (K : w.rangeAt b o (mcs m A c)) (hx : ρ x = .pointer (some ⟨b, o, none⟩)) :
    (execOp ρ { dst, op := .load 31 x, type := ty, pos, after, guard }).run Tryd.prog w = .ok (.value (mv m A c)) w := by
  have := run_loadAt_mid (P := Tryd.prog) w b o 31 (mcs m A c) _ K Tryd.underlying31 rfl (by kernel_rfl)
  unfold execOp
  simp only [hx, Sem.run_bind, this, Result.andThen_ok, Sem.run_pure]
  rfl
theorem below_none (h : w.grownBy w' none) : Below w.heap.size w w' := ⟨h.os, h.tape, h.output, h.size, fun k hk => h.block k hk (by simp)⟩
end
end Go.Proofs.YtkckibcfanaglaaDoor

/- A slice of operations that came in: structs of two ints, a message, bytes, two int64s. No program is named here. -/
namespace Go.Proofs.YtkckibcfanaglaaDoor
open Go.RowKit Go.ChangeShapes Go.WideShapes Go.Deep

section
variable {H : Type} {enc : TypeId × Value → H} {P : Program} {w : World} {base : Nat} {spare : Nat → Bool} {held : Bool}
/-- A slice whose elements have m cells; F j u: what is known of an element's cell j. -/
theorem open_any {t e : TypeId} {m : Nat} {fuel : Nat} {cs : List Value} {x : DataW H × List MemPlace} (F : Nat → Value → Prop)
    (ht : P.underlying t = some (.slice e)) (hC : P.cellsOf e = m) (hm0 : 0 < m)
    (hE : ∀ (fuel : Nat) (cs : List Value) (x : DataW H × List MemPlace), DataW.trod enc P w base spare held fuel e cs = some x → ∀ (j : Nat) (u : Value), cs[j]? = some u → F j u)
    (h : DataW.trod enc P w base spare held fuel t cs = some x) :
    ∃ (A : Option Addr) (n c : Nat) (xs : List Value), cs = [.slice A n c] ∧ Rd w w.heap.size A c m n xs ∧ ∀ (i j : Nat) (u : Value), j < m → xs[i * m + j]? = some u → F j u := by
  rcases open_slice ht h with ⟨rfl, _⟩ | ⟨a, len, cap, k, q, D, Pl, hcs, hb, hl, hc, hk, hx, hi⟩
  · exact ⟨none, 0, 0, [], rfl, Rd.nil _ _ _, fun i j u _ hu => by simp at hu⟩
  · have hle : len ≤ k := by rw [hk]; split <;> omega
    have each : ∀ i j, i < len → j < m → ∃ u, w.cell? ((a.add (i * m)).add j) = some u ∧ F j u := by
      intro i j hil hj
      obtain ⟨cs', hc', ht'⟩ := hi i (by omega)
      rw [hC] at hc'
      obtain ⟨_, hcl, hat⟩ := World.cells?_some hc'
      have hj' : j < cs'.length := by omega
      refine ⟨cs'[j], (hat j hj).trans ?_, hE _ _ _ ht' j _ (List.getElem?_eq_getElem hj')⟩
      exact List.getElem?_eq_getElem hj'
    by_cases hp : 0 < len
    · obtain ⟨u0, e0, _⟩ := each 0 0 hp hm0
      obtain ⟨b, o, spot⟩ := a
      have hs : spot = none := by simpa [Addr.add] using World.cell?_spot e0
      subst hs
      have cel : ∀ i j, i < len → j < m → ∃ u, w.cell? ⟨b, o + (i * m + j), none⟩ = some u ∧ F j u := by
        intro i j hil hj
        obtain ⟨u, hu, hFu⟩ := each i j hil hj
        rw [add_zero_spot, add_zero_spot, Nat.add_assoc] at hu
        exact ⟨u, hu, hFu⟩
      refine ⟨some ⟨b, o, none⟩, len, cap, (List.range (len * m)).map (fun q => (w.cell? ⟨b, o + q, none⟩).getD undef), hcs, ⟨by simp, hl, hc, (fun hh => by cases hh), fun _ => ⟨b, o, rfl, ?_, fun j u hu => ?_⟩⟩, fun i j u hj hu => ?_⟩
      · rw [add_zero_spot, add_zero_spot] at e0
        exact World.block_lt_of_cell? w _ e0
      · rw [List.getElem?_map] at hu
        by_cases hj : j < len * m
        · rw [List.getElem?_range hj] at hu
          have d1 : j / m < len := Nat.div_lt_of_lt_mul (by rw [Nat.mul_comm]; exact hj)
          have d2 : j % m < m := Nat.mod_lt _ hm0
          obtain ⟨v, hv, _⟩ := cel (j / m) (j % m) d1 d2
          rw [show j / m * m + j % m = j by rw [Nat.mul_comm]; exact Nat.div_add_mod j m] at hv
          simp [hv] at hu
          rw [hv, hu]
        · rw [List.getElem?_eq_none (by simpa using hj)] at hu
          cases hu
      · rw [List.getElem?_map] at hu
        by_cases hq : i * m + j < len * m
        · rw [List.getElem?_range hq] at hu
          have d1 : i < len := by
            rcases Nat.lt_or_ge i len with h | h
            · exact h
            · have := Nat.mul_le_mul_right m h; omega
          obtain ⟨v, hv, hFv⟩ := cel i j d1 hj
          simp [hv] at hu
          rw [← hu]; exact hFv
        · rw [List.getElem?_eq_none (by simpa using hq)] at hu
          cases hu
    · have : len = 0 := by omega
      subst this
      exact ⟨some a, 0, cap, [], hcs, ⟨by simp, hl, hc, (fun hh => by cases hh), fun h => by omega⟩, fun i j u _ hu => by simp at hu⟩

theorem bs_of : ∀ (xs : List Value), (∀ u ∈ xs, ∃ x, u = .int .u8 x ∧ (Lit.int .u8 x).wf = true) → ∃ l, xs = bs l ∧ isB l
  | [], _ => ⟨[], rfl, fun x hx => by cases hx⟩
  | u :: xs, h => by
    obtain ⟨l, rfl, hl⟩ := bs_of xs fun v hv => h v (List.mem_cons_of_mem _ hv)
    obtain ⟨x, rfl, hx⟩ := h u (List.mem_cons_self ..)
    refine ⟨x :: l, rfl, fun y hy => ?_⟩
    rcases List.mem_cons.1 hy with rfl | hy
    · exact isB_of_wf (l := [y]) (fun n hn => by rw [List.mem_singleton.1 hn]; exact hx) y (List.mem_singleton.2 rfl)
    · exact hl y hy
/-- Bytes that came in. -/
theorem open_bytes {t e : TypeId} {fuel : Nat} {cs : List Value} {x : DataW H × List MemPlace} (ht : P.underlying t = some (.slice e)) (he : P.underlying e = some (.int .u8)) (hC : P.cellsOf e = 1)
    (h : DataW.trod enc P w base spare held fuel t cs = some x) : ∃ (A : Option Addr) (n c : Nat) (l : List Int), cs = [.slice A n c] ∧ Rd w w.heap.size A c 1 n (bs l) ∧ isB l := by
  obtain ⟨A, n, c, xs, e1, e2, e3⟩ := open_any (m := 1) (F := fun _ u => ∃ x, u = .int .u8 x ∧ (Lit.int .u8 x).wf = true) ht hC (by decide) (fun fuel cs x hx j u hu => by
    obtain ⟨n, rfl, _, hw⟩ := DataW.trod_int he hx
    have hj : j = 0 := by have := (List.getElem?_eq_some_iff.1 hu).1; simp at this; omega
    subst hj
    simp at hu
    exact ⟨n, hu.symm, hw⟩) h
  obtain ⟨l, rfl, hl⟩ := bs_of xs fun u hu => by
    obtain ⟨i, hi, rfl⟩ := List.getElem_of_mem hu
    exact e3 i 0 _ (by decide) (by rw [Nat.mul_one, Nat.add_zero]; exact List.getElem?_eq_getElem hi)
  exact ⟨A, n, c, l, e1, e2, hl⟩

/-- One cell of a struct, by its field. -/
theorem one_of {cs : List Value} {u v : Value} {o : Nat} (hu : cs[o]? = some u) (hv : (cs.drop o).take 1 = [v]) : u = v := by
  have h3 := congrArg (fun q => q[0]?) hv
  simp only [List.getElem?_take, List.getElem?_drop, Nat.lt_succ_self, if_true, Nat.add_zero, List.getElem?_cons_zero] at h3
  exact Option.some.inj (hu.symm.trans h3)

/-- A message's cells that came in. -/
theorem msg_cells {t E : TypeId} {fs es : Array Field} {fuel : Nat} {cs : List Value} {x : DataW H × List MemPlace} (ht : P.underlying t = some (.struct fs)) (hC : P.cellsOf t = 13) (hT : MsgT P fs E)
    (hE : P.underlying E = some (.struct es)) (hEC : P.cellsOf E = 7) (hET : EntT P es)
    (h : DataW.trod enc P w base spare held fuel t cs = some x) : cs.length = 13 ∧ ∀ (j : Nat) (u : Value), cs[j]? = some u → FM w j u := by
  obtain ⟨xs, n, rfl, hx, hl, hxl, hfs⟩ := DataW.trod_struct ht h
  rw [hC] at hl
  refine ⟨hl, fun j u hu => ?_⟩
  have hj := (List.getElem?_eq_some_iff.1 hu).1
  have hjf : j < fs.size := by rw [hT.1]; omega
  have hy := hfs j fs[j] (Array.getElem?_eq_getElem hjf)
  rw [List.getElem?_eq_getElem (show j < xs.length by omega)] at hy
  obtain ⟨h1, h2, h3, h4, h5⟩ := hT.2 j fs[j] (Array.getElem?_eq_getElem hjf)
  have key : ∀ v, (cs.drop fs[j].offset).take (P.cellsOf fs[j].type) = [v] → u = v := by
    intro v hv
    rw [h1, h2] at hv
    exact one_of hu hv
  by_cases e8 : j = 8
  · obtain ⟨A, n, c, l, hcs, hr, ho⟩ := open_ents (h4 e8) hE hEC hET hy
    exact ⟨fun h => absurd e8 h, fun _ => ⟨A, n, c, l, key _ hcs, hr, ho⟩, fun h => by omega⟩
  · by_cases e12 : j = 12
    · obtain ⟨b, hcs, _⟩ := DataW.trod_bool (h5 e12) hy
      exact ⟨fun _ h => absurd e12 h, fun h => absurd h e8, fun _ => ⟨b, key _ hcs⟩⟩
    · obtain ⟨x, hcs, _, hw⟩ := DataW.trod_int (h3 e8 e12) hy
      exact ⟨fun _ _ => ⟨x, key _ hcs, hw⟩, fun h => absurd h e8, fun h => absurd h e12⟩

/-- What is known of the cell j of an operation. -/
def FG (w : World) (j : Nat) (u : Value) : Prop :=
  (j < 2 ∨ 15 < j → ∃ x, u = .int .i64 x ∧ (Lit.int .i64 x).wf = true) ∧ (2 ≤ j → j < 15 → FM w (j - 2) u) ∧
  (j = 15 → ∃ (A : Option Addr) (n c : Nat) (l : List Int), u = .slice A n c ∧ Rd w w.heap.size A c 1 n (bs l) ∧ isB l)
def AllG (w : World) (z : List Value) : Prop := ∀ (i j : Nat) (u : Value), j < 18 → z[i * 18 + j]? = some u → FG w j u

/-- An int64 at place o. -/
def I1 (P : Program) (f : Field) (o : Nat) : Prop := P.underlying f.type = some (.int .i64) ∧ P.cellsOf f.type = 1 ∧ f.offset = o
theorem open_gops {t e E B1 : TypeId} {f0 f1 f2 f3 f4 f5 : Field} {ms es : Array Field} {fuel : Nat} {cs : List Value} {x : DataW H × List MemPlace}
    (ht : P.underlying t = some (.slice e)) (he : P.underlying e = some (.struct #[f0, f1, f2, f3, f4, f5])) (hC : P.cellsOf e = 18)
    (h0 : I1 P f0 0) (h1 : I1 P f1 1) (h4 : I1 P f4 16) (h5 : I1 P f5 17)
    (hM : P.underlying f2.type = some (.struct ms)) (hMC : P.cellsOf f2.type = 13) (hMO : f2.offset = 2) (hMT : MsgT P ms E) (hE : P.underlying E = some (.struct es)) (hEC : P.cellsOf E = 7) (hET : EntT P es)
    (hB : P.underlying f3.type = some (.slice B1)) (hBC : P.cellsOf f3.type = 1) (hBO : f3.offset = 15) (hB1 : P.underlying B1 = some (.int .u8)) (hB1C : P.cellsOf B1 = 1)
    (h : DataW.trod enc P w base spare held fuel t cs = some x) : ∃ (A : Option Addr) (n c : Nat) (z : List Value), cs = [.slice A n c] ∧ Rd w w.heap.size A c 18 n z ∧ AllG w z := by
  refine open_any (F := FG w) ht hC (by decide) (fun fuel cs x hx j u hu => ?_) h
  obtain ⟨xs, n, rfl, _, hl, hxl, hfs⟩ := DataW.trod_struct he hx
  rw [hC] at hl
  have hxl6 : xs.length = 6 := hxl
  have hj : j < 18 := by have := (List.getElem?_eq_some_iff.1 hu).1; omega
  have int1 : ∀ (q : Nat) (f : Field) (o : Nat), (#[f0, f1, f2, f3, f4, f5] : Array Field)[q]? = some f → I1 P f o → q < 6 → ∀ u, cs[o]? = some u → ∃ x, u = .int .i64 x ∧ (Lit.int .i64 x).wf = true := by
    intro q f o hf hi hq u hu
    have hy := hfs q f hf
    rw [List.getElem?_eq_getElem (show q < xs.length by omega)] at hy
    obtain ⟨x, hcs, _, hw⟩ := DataW.trod_int hi.1 hy
    rw [hi.2.1, hi.2.2] at hcs
    exact ⟨x, one_of hu hcs, hw⟩
  refine ⟨fun hjj => ?_, fun h2 h15 => ?_, fun h15 => ?_⟩
  · rcases (by omega : j = 0 ∨ j = 1 ∨ j = 16 ∨ j = 17) with rfl | rfl | rfl | rfl
    · exact int1 0 f0 0 rfl h0 (by decide) u hu
    · exact int1 1 f1 1 rfl h1 (by decide) u hu
    · exact int1 4 f4 16 rfl h4 (by decide) u hu
    · exact int1 5 f5 17 rfl h5 (by decide) u hu
  · have hy := hfs 2 f2 rfl
    rw [List.getElem?_eq_getElem (show 2 < xs.length by omega), hMC, hMO] at hy
    refine (msg_cells hM hMC hMT hE hEC hET hy).2 (j - 2) u ?_
    rw [List.getElem?_take, if_pos (by omega), List.getElem?_drop, show 2 + (j - 2) = j by omega]
    exact hu
  · subst h15
    have hy := hfs 3 f3 rfl
    rw [List.getElem?_eq_getElem (show 3 < xs.length by omega)] at hy
    obtain ⟨A, n, c, l, hcs, hr, hb⟩ := open_bytes hB hB1 hB1C hy
    rw [hBC, hBO] at hcs
    exact ⟨A, n, c, l, one_of hu hcs, hr, hb⟩
end

/-- An operation's cells. -/
def gopc (kd id : Int) (m : Msg) (MA : Option Addr) (mc : Nat) (BA : Option Addr) (bn bc : Nat) (num clk : Int) : List Value :=
  [.int .i64 kd, .int .i64 id, .int .i64 m.kind, .int .i64 m.fr, .int .i64 m.dst, .int .i64 m.boot, .int .i64 m.view, .int .i64 m.last, .int .i64 m.mem, .int .i64 m.pos, .slice MA m.es.length mc, .int .i64 m.com, .int .i64 m.num, .int .i64 m.clk, .bool m.yes, .slice BA bn bc, .int .i64 num, .int .i64 clk]
theorem gop_of {w : World} {cs : List Value} (hl : cs.length = 18) (h : ∀ (j : Nat) (u : Value), j < 18 → cs[j]? = some u → FG w j u) :
    ∃ (kd id : Int) (m : Msg) (MA : Option Addr) (mc : Nat) (BA : Option Addr) (bn bc : Nat) (bl : List Int) (num clk : Int), cs = gopc kd id m MA mc BA bn bc num clk ∧
      Rd w w.heap.size MA mc 7 m.es.length (els m.es) ∧ MsgOk m ∧ Rd w w.heap.size BA bc 1 bn (bs bl) ∧ isB bl := by
  match cs, hl with
  | [a0, a1, a2, a3, a4, a5, a6, a7, a8, a9, a10, a11, a12, a13, a14, a15, a16, a17], _ =>
    obtain ⟨kd, rfl, _⟩ := (h 0 a0 (by decide) rfl).1 (by decide)
    obtain ⟨id, rfl, _⟩ := (h 1 a1 (by decide) rfl).1 (by decide)
    obtain ⟨num, rfl, _⟩ := (h 16 a16 (by decide) rfl).1 (by decide)
    obtain ⟨clk, rfl, _⟩ := (h 17 a17 (by decide) rfl).1 (by decide)
    obtain ⟨BA, bn, bc, bl, rfl, hb, hbb⟩ := (h 15 a15 (by decide) rfl).2.2 rfl
    obtain ⟨m, MA, mc, hm, hr, ho⟩ := msg_of (w := w) (cs := [a2, a3, a4, a5, a6, a7, a8, a9, a10, a11, a12, a13, a14]) rfl (fun j u hu => by
      have hj : j < 13 := by have := (List.getElem?_eq_some_iff.1 hu).1; simpa using this
      have := (h (j + 2) u (by omega) (by
        show (_ :: _ :: ([a2, a3, a4, a5, a6, a7, a8, a9, a10, a11, a12, a13, a14] ++ [_, _, _]))[j + 2]? = some u
        rw [List.getElem?_cons_succ, List.getElem?_cons_succ, List.getElem?_append_left (by simpa using hj)]
        exact hu)).2.1 (by omega) (by omega)
      simpa using this)
    unfold mcs at hm
    simp only [List.cons.injEq, and_true] at hm
    obtain ⟨rfl, rfl, rfl, rfl, rfl, rfl, rfl, rfl, rfl, rfl, rfl, rfl, rfl⟩ := hm
    exact ⟨kd, id, m, MA, mc, BA, bn, bc, bl, num, clk, rfl, hr, ho, hb, hbb⟩

/-- The operation at place i, in a later world. -/
theorem Rd.gop {w w' : World} {c n : Nat} {A : Option Addr} {z : List Value} (h : Rd w w.heap.size A c 18 n z) (hz : AllG w z) (hb : Below w.heap.size w w') {i : Nat} (hi : i < n) :
    ∃ (b o : Nat) (kd id : Int) (m : Msg) (MA : Option Addr) (mc : Nat) (BA : Option Addr) (bn bc : Nat) (bl : List Int) (num clk : Int), A = some ⟨b, o, none⟩ ∧ w'.rangeAt b (o + i * 18) (gopc kd id m MA mc BA bn bc num clk) ∧
      Rd w' w'.heap.size MA mc 7 m.es.length (els m.es) ∧ MsgOk m ∧ Rd w' w'.heap.size BA bc 1 bn (bs bl) ∧ isB bl := by
  have hlen := h.len
  obtain ⟨b, o, hA, _, hc⟩ := (h.below hb).2.2.2.2 (by omega)
  have hl : ((z.drop (i * 18)).take 18).length = 18 := by simp; omega
  obtain ⟨kd, id, m, MA, mc, BA, bn, bc, bl, num, clk, hcs, h1, h2, h3, h4⟩ := gop_of (w := w) hl (fun j u hj hu => hz i j u hj (by
    rw [List.getElem?_take, if_pos hj, List.getElem?_drop] at hu
    exact hu))
  refine ⟨b, o, kd, id, m, MA, mc, BA, bn, bc, bl, num, clk, hA, fun j v hv => ?_, (h1.past hb).tight, h2, (h3.past hb).tight, h4⟩
  rw [← hcs] at hv
  have hj : j < 18 := by have := (List.getElem?_eq_some_iff.1 hv).1; omega
  rw [List.getElem?_take, if_pos hj, List.getElem?_drop] at hv
  rw [Nat.add_assoc]
  exact hc _ _ hv
end Go.Proofs.YtkckibcfanaglaaDoor

/- A slice of operations that came in: structs of two ints and a slice of messages. No program is named here. -/
namespace Go.Proofs.YtkckibcfanaglaaDoor
open Go.RowKit Go.ChangeShapes Go.WideShapes Go.Deep

/-- What is known of a row of messages; of the cell j of an operation. -/
def AllM (w : World) (z : List Value) : Prop := ∀ (i j : Nat) (u : Value), j < 13 → z[i * 13 + j]? = some u → FM w j u
def FN (w : World) (j : Nat) (u : Value) : Prop := (j < 2 → ∃ x, u = .int .i64 x ∧ (Lit.int .i64 x).wf = true) ∧ (j = 2 → ∃ (A : Option Addr) (n c : Nat) (z : List Value), u = .slice A n c ∧ Rd w w.heap.size A c 13 n z ∧ AllM w z)
def AllN (w : World) (z : List Value) : Prop := ∀ (i j : Nat) (u : Value), j < 3 → z[i * 3 + j]? = some u → FN w j u

section
variable {H : Type} {enc : TypeId × Value → H} {P : Program} {w : World} {base : Nat} {spare : Nat → Bool} {held : Bool}
/-- A slice of messages that came in. -/
theorem open_msgs {t e E : TypeId} {ms es : Array Field} {fuel : Nat} {cs : List Value} {x : DataW H × List MemPlace}
    (ht : P.underlying t = some (.slice e)) (hM : P.underlying e = some (.struct ms)) (hMC : P.cellsOf e = 13) (hMT : MsgT P ms E) (hE : P.underlying E = some (.struct es)) (hEC : P.cellsOf E = 7) (hET : EntT P es)
    (h : DataW.trod enc P w base spare held fuel t cs = some x) : ∃ (A : Option Addr) (n c : Nat) (z : List Value), cs = [.slice A n c] ∧ Rd w w.heap.size A c 13 n z ∧ AllM w z :=
  open_any (F := FM w) ht hMC (by decide) (fun _ _ _ hx j u hu => (msg_cells hM hMC hMT hE hEC hET hx).2 j u hu) h
theorem open_nops {t e m E : TypeId} {f0 f1 f2 : Field} {ms es : Array Field} {fuel : Nat} {cs : List Value} {x : DataW H × List MemPlace}
    (ht : P.underlying t = some (.slice e)) (he : P.underlying e = some (.struct #[f0, f1, f2])) (hC : P.cellsOf e = 3) (h0 : I1 P f0 0) (h1 : I1 P f1 1)
    (hL : P.underlying f2.type = some (.slice m)) (hLC : P.cellsOf f2.type = 1) (hLO : f2.offset = 2)
    (hM : P.underlying m = some (.struct ms)) (hMC : P.cellsOf m = 13) (hMT : MsgT P ms E) (hE : P.underlying E = some (.struct es)) (hEC : P.cellsOf E = 7) (hET : EntT P es)
    (h : DataW.trod enc P w base spare held fuel t cs = some x) : ∃ (A : Option Addr) (n c : Nat) (z : List Value), cs = [.slice A n c] ∧ Rd w w.heap.size A c 3 n z ∧ AllN w z := by
  refine open_any (F := FN w) ht hC (by decide) (fun fuel cs x hx j u hu => ?_) h
  obtain ⟨xs, n, rfl, _, hl, hxl, hfs⟩ := DataW.trod_struct he hx
  rw [hC] at hl
  have hxl3 : xs.length = 3 := hxl
  have hj : j < 3 := by have := (List.getElem?_eq_some_iff.1 hu).1; omega
  have int1 : ∀ (q : Nat) (f : Field) (o : Nat), (#[f0, f1, f2] : Array Field)[q]? = some f → I1 P f o → q < 3 → ∀ u, cs[o]? = some u → ∃ x, u = .int .i64 x ∧ (Lit.int .i64 x).wf = true := by
    intro q f o hf hi hq u hu
    have hy := hfs q f hf
    rw [List.getElem?_eq_getElem (show q < xs.length by omega)] at hy
    obtain ⟨x, hcs, _, hw⟩ := DataW.trod_int hi.1 hy
    rw [hi.2.1, hi.2.2] at hcs
    exact ⟨x, one_of hu hcs, hw⟩
  refine ⟨fun hjj => ?_, fun h2 => ?_⟩
  · rcases (by omega : j = 0 ∨ j = 1) with rfl | rfl
    · exact int1 0 f0 0 rfl h0 (by decide) u hu
    · exact int1 1 f1 1 rfl h1 (by decide) u hu
  · subst h2
    have hy := hfs 2 f2 rfl
    rw [List.getElem?_eq_getElem (show 2 < xs.length by omega)] at hy
    obtain ⟨A, n, c, z, hcs, hr, hz⟩ := open_msgs hL hM hMC hMT hE hEC hET hy
    rw [hLC, hLO] at hcs
    exact ⟨A, n, c, z, one_of hu hcs, hr, hz⟩
end

/-- An operation's cells. -/
def nopc (kd id : Int) (MA : Option Addr) (mn mc : Nat) : List Value := [.int .i64 kd, .int .i64 id, .slice MA mn mc]
/-- The operation at place i, in a later world. -/
theorem Rd.nop {w w' : World} {c n : Nat} {A : Option Addr} {z : List Value} (h : Rd w w.heap.size A c 3 n z) (hz : AllN w z) (hb : Below w.heap.size w w') {i : Nat} (hi : i < n) :
    ∃ (b o : Nat) (kd id : Int) (MA : Option Addr) (mn mc : Nat) (mz : List Value), A = some ⟨b, o, none⟩ ∧ w'.rangeAt b (o + i * 3) (nopc kd id MA mn mc) ∧ (-9223372036854775808 ≤ id ∧ id ≤ 9223372036854775807) ∧ Rd w w.heap.size MA mc 13 mn mz ∧ AllM w mz := by
  have hlen := h.len
  obtain ⟨b, o, hA, _, hc⟩ := (h.below hb).2.2.2.2 (by omega)
  have hl : ((z.drop (i * 3)).take 3).length = 3 := by simp; omega
  have hF : ∀ (j : Nat) (u : Value), j < 3 → ((z.drop (i * 3)).take 3)[j]? = some u → FN w j u := fun j u hj hu => hz i j u hj (by
    rw [List.getElem?_take, if_pos hj, List.getElem?_drop] at hu
    exact hu)
  match hcs : (z.drop (i * 3)).take 3, hl with
  | [a0, a1, a2], _ =>
    rw [hcs] at hF
    obtain ⟨kd, rfl, _⟩ := (hF 0 a0 (by decide) rfl).1 (by decide)
    obtain ⟨id, rfl, hw⟩ := (hF 1 a1 (by decide) rfl).1 (by decide)
    obtain ⟨MA, mn, mc, mz, rfl, hr, hm⟩ := (hF 2 a2 (by decide) rfl).2 rfl
    refine ⟨b, o, kd, id, MA, mn, mc, mz, hA, fun j v hv => ?_, bounds_i64 hw, hr, hm⟩
    have hj : j < 3 := by have := (List.getElem?_eq_some_iff.1 hv).1; exact this
    have hv2 : ((z.drop (i * 3)).take 3)[j]? = some v := by rw [hcs]; exact hv
    rw [List.getElem?_take, if_pos hj, List.getElem?_drop] at hv2
    rw [Nat.add_assoc]
    exact hc _ _ hv2
/-- The message at place i, in a later world. -/
theorem Rd.nmsg {w w' : World} {c n : Nat} {A : Option Addr} {z : List Value} (h : Rd w w.heap.size A c 13 n z) (hz : AllM w z) (hb : Below w.heap.size w w') {i : Nat} (hi : i < n) :
    ∃ (b o : Nat) (m : Msg) (MA : Option Addr) (mc : Nat), A = some ⟨b, o, none⟩ ∧ w'.rangeAt b (o + i * 13) (mcs m MA mc) ∧ Rd w' w'.heap.size MA mc 7 m.es.length (els m.es) ∧ MsgOk m := by
  have hlen := h.len
  obtain ⟨b, o, hA, _, hc⟩ := (h.below hb).2.2.2.2 (by omega)
  have hl : ((z.drop (i * 13)).take 13).length = 13 := by simp; omega
  obtain ⟨m, MA, mc, hcs, hr, ho⟩ := msg_of (w := w) hl (fun j u hu => by
    have hj : j < 13 := by have := (List.getElem?_eq_some_iff.1 hu).1; omega
    rw [List.getElem?_take, if_pos hj, List.getElem?_drop] at hu
    exact hz i j u hj hu)
  refine ⟨b, o, m, MA, mc, hA, fun j v hv => ?_, (hr.past hb).tight, ho⟩
  rw [← hcs] at hv
  have hj : j < 13 := by have := (List.getElem?_eq_some_iff.1 hv).1; omega
  rw [List.getElem?_take, if_pos hj, List.getElem?_drop] at hv
  rw [Nat.add_assoc]
  exact hc _ _ hv
end Go.Proofs.YtkckibcfanaglaaDoor

