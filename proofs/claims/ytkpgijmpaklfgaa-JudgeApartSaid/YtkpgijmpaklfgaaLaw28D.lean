/- The walk of JudgeApart. -/
import Derived.Test.YtkpgijmpaklfgaaJudK
import Derived.Test.YtkpgijmpaklfgaaJudL
import Derived.Test.YtkpgijmpaklfgaaJudO
import Derived.Test.YtkpgijmpaklfgaaEntR
import Derived.Test.YtkpgijmpaklfgaaOw
import Derived.Test.YtkpgijmpaklfgaaHeld2
import Derived.Deep.CutRange
namespace Go.Proofs.Ytkpgijmpaklfgaa
open Go.RowKit PReady PJud

theorem tolds_okD {l : List Tl} (h : ∀ t ∈ l, EntSm t.2) : ∀ t ∈ l, EntOk t.2 := fun e he => ⟨(h e he).fit, by have := (h e he).sz; unfold maxLen; omega⟩
theorem ents_okD {l : List Ent} (h : ∀ e ∈ l, EntSm e) : ∀ e ∈ l, EntOk e := fun e he => ⟨(h e he).fit, by have := (h e he).sz; unfold maxLen; omega⟩
/-- The entry of place k + 1 with that text. -/
def bE (k : Nat) (d : ByteArray) : Ent := ⟨1, 1, (k : Int) + 1, 1, 2, 0, d⟩
def eX (k : Nat) : List Ent := (List.range k).map fun (i : Nat) => bE i ByteArray.empty
def eY (n : Nat) (d : ByteArray) (k : Nat) : List Ent := (List.range k).map fun (i : Nat) => bE i (if i = n then d else ByteArray.empty)
def tX (k : Nat) : List Tl := (List.range k).map fun (i : Nat) => ((i : Int) + 1, bE i ByteArray.empty)
def tY (n : Nat) (d : ByteArray) (k : Nat) : List Tl := (List.range k).map fun (i : Nat) => ((i : Int) + 1, bE i (if i = n then d else ByteArray.empty))
theorem eX_len (k : Nat) : (eX k).length = k := by simp [eX]
theorem eY_len (n : Nat) (d : ByteArray) (k : Nat) : (eY n d k).length = k := by simp [eY]
theorem tX_len (k : Nat) : (tX k).length = k := by simp [tX]
theorem tY_len (n : Nat) (d : ByteArray) (k : Nat) : (tY n d k).length = k := by simp [tY]
theorem eX_snoc (k : Nat) : eX (k + 1) = eX k ++ [bE k ByteArray.empty] := by unfold eX; rw [List.range_succ, List.map_append]; rfl
theorem tX_snoc (k : Nat) : tX (k + 1) = tX k ++ [((k : Int) + 1, bE k ByteArray.empty)] := by unfold tX; rw [List.range_succ, List.map_append]; rfl
theorem eY_snoc (n : Nat) (d : ByteArray) (k : Nat) : eY n d (k + 1) = eY n d k ++ [bE k (if k = n then d else ByteArray.empty)] := by unfold eY; rw [List.range_succ, List.map_append]; rfl
theorem tY_snoc (n : Nat) (d : ByteArray) (k : Nat) : tY n d (k + 1) = tY n d k ++ [((k : Int) + 1, bE k (if k = n then d else ByteArray.empty))] := by unfold tY; rw [List.range_succ, List.map_append]; rfl
theorem tX_snd (k : Nat) : (tX k).map (·.2) = eX k := by simp [tX, eX]
theorem tY_snd (n : Nat) (d : ByteArray) (k : Nat) : (tY n d k).map (·.2) = eY n d k := by simp [tY, eY]
theorem isF_bE (k : Nat) (d : ByteArray) : isF (bE k d) = true := rfl
theorem firmX (k : Nat) : firm (tX k) = eX k := by
  unfold firm
  rw [tX_snd, List.filter_eq_self]
  intro e he
  obtain ⟨i, _, rfl⟩ := List.mem_map.1 he
  rfl
theorem firmY (n : Nat) (d : ByteArray) (k : Nat) : firm (tY n d k) = eY n d k := by
  unfold firm
  rw [tY_snd, List.filter_eq_self]
  intro e he
  obtain ⟨i, _, rfl⟩ := List.mem_map.1 he
  rfl
theorem eY_low (n : Nat) (d : ByteArray) (k : Nat) (h : k ≤ n) : eY n d k = eX k := by
  unfold eY eX
  refine List.map_congr_left fun i hi => ?_
  rw [if_neg (by have := List.mem_range.1 hi; omega)]
theorem eY_all (n : Nat) (d : ByteArray) : eY n d (n + 1) = eX n ++ [bE n d] := by rw [eY_snoc, eY_low n d n (Nat.le_refl _), if_pos rfl]
theorem eY_eq (n : Nat) (k : Nat) : eY n ByteArray.empty k = eX k := by simp [eY, eX]
theorem eX_take (n k : Nat) (h : k ≤ n) : (eX n).take k = eX k := by
  unfold eX
  rw [← List.map_take, List.take_range, Nat.min_eq_left h]
theorem eY_take (n : Nat) (d : ByteArray) (m k : Nat) (h : k ≤ m) : (eY n d m).take k = eY n d k := by
  unfold eY
  rw [← List.map_take, List.take_range, Nat.min_eq_left h]
/-- Same text: the two are one. -/
def sm (d : ByteArray) : Bool := decide (d = ByteArray.empty)
theorem sm_eq (d : ByteArray) : sm d = d.toList.isEmpty := by
  unfold sm
  by_cases hd : d = ByteArray.empty
  · subst hd
    kernel_rfl
  · rw [decide_eq_false hd]
    cases h : d.toList.isEmpty with
    | false => rfl
    | true =>
      refine absurd ?_ hd
      rcases d with ⟨⟨l⟩⟩
      simp at h
      subst h
      rfl
theorem eqN_all (n : Nat) (d : ByteArray) : eqN (eX (n + 1)) (eY n d (n + 1)) (n + 1) = sm d := by
  unfold eqN
  rw [eX_take _ _ (Nat.le_refl _), eY_take _ _ _ _ (Nat.le_refl _)]
  by_cases hd : d = ByteArray.empty
  · subst hd
    rw [eY_eq, (PEnt.eqL_iff _ _).2 rfl]
    rfl
  · have h2 : sm d = false := by
      unfold sm
      exact decide_eq_false hd
    rw [h2]
    cases he : PEnt.eqL (eX (n + 1)) (eY n d (n + 1)) with
    | false => rfl
    | true =>
      have h3 := (PEnt.eqL_iff _ _).1 he
      rw [eX_snoc, eY_all] at h3
      have h4 := (List.append_inj' h3 rfl).2
      have h5 : bE n ByteArray.empty = bE n d := by simpa using h4
      exact absurd (congrArg Ent.data h5).symm hd
theorem prefix_all (n : Nat) (d : ByteArray) : pfx (tX (n + 1)) (tY n d (n + 1)) = sm d := by
  unfold pfx
  rw [firmX, firmY, eX_len, eY_len, Nat.min_self, eqN_all]
theorem prefix_low (n : Nat) (d : ByteArray) : pfx (tX n) (tY n d (n + 1)) = true := by
  unfold pfx eqN
  rw [firmX, firmY, eX_len, eY_len, Nat.min_eq_left (by omega), eX_take _ _ (Nat.le_refl _), eY_take _ _ _ _ (by omega), eY_low _ _ _ (Nat.le_refl _)]
  exact (PEnt.eqL_iff _ _).2 rfl
theorem less_at (m : Nat) : less ((m : Int) + 1) (m + 1) = m + 1 := by unfold less; omega
theorem less_low (m : Nat) : less (m : Int) (m + 1) = m := by unfold less; omega
theorem agree_all (n : Nat) (d : ByteArray) : agree (eX (n + 1)) ((n : Int) + 1) (eY n d (n + 1)) ((n : Int) + 1) = sm d := by
  unfold agree
  rw [eX_len, eY_len, less_at, Nat.min_self, eqN_all]
theorem agree_low (n : Nat) (d : ByteArray) : agree (eX (n + 1)) (n : Int) (eY n d (n + 1)) ((n : Int) + 1) = true := by
  unfold agree eqN
  rw [eX_len, eY_len, less_at, less_low, Nat.min_eq_left (by omega), eX_take _ _ (by omega), eY_take _ _ _ _ (by omega), eY_low _ _ _ (Nat.le_refl _)]
  exact (PEnt.eqL_iff _ _).2 rfl
theorem mt_self (e : Ent) : PJud.mt e e = true := by simp [PJud.mt, PEnt.same]
theorem castAp_all (n : Nat) (d : ByteArray) : PJud.cast (eX (n + 1)) (eY n d (n + 1)) = sm d := by
  by_cases hd : d = ByteArray.empty
  · subst hd
    rw [eY_eq]
    show _ = true
    unfold PJud.cast
    rw [List.all_eq_true]
    intro e he
    rw [List.any_eq_true]
    exact ⟨e, he, mt_self e⟩
  · rw [show sm d = false from decide_eq_false hd]
    cases hc : PJud.cast (eX (n + 1)) (eY n d (n + 1)) with
    | false => rfl
    | true =>
      unfold PJud.cast at hc
      rw [List.all_eq_true] at hc
      have h1 := hc (bE n ByteArray.empty) (by rw [eX_snoc]; simp)
      rw [List.any_eq_true] at h1
      obtain ⟨x, hx, hm⟩ := h1
      obtain ⟨i, hi, rfl⟩ := List.mem_map.1 hx
      simp only [PJud.mt, PEnt.same, bE, Bool.and_eq_true] at hm
      have h2 : (i : Int) + 1 = (n : Int) + 1 := by
        have := hm.1.1.1
        simp at this
        omega
      obtain rfl : i = n := by omega
      rw [if_pos rfl] at hm
      have h3 := hm.2
      simp at h3
      refine absurd ?_ hd
      rcases d with ⟨⟨l⟩⟩
      simp at h3
      subst h3
      rfl
theorem bE_ok {k : Nat} (hk : k ≤ 20) {d : ByteArray} (hd : d.size ≤ 16) : EntOk (bE k d) := by
  refine ⟨⟨?_, ?_, ?_, ?_, ?_, ?_⟩, ?_⟩ <;> first | (show _ ≤ maxLen; unfold maxLen; show d.size ≤ _; omega) | (simp only [bE]; omega)
theorem eX_ok {k : Nat} (hk : k ≤ 21) : ∀ e ∈ eX k, EntOk e := by
  intro e he
  obtain ⟨i, hi, rfl⟩ := List.mem_map.1 he
  exact bE_ok (by have := List.mem_range.1 hi; omega) (by decide)
theorem eY_ok {n k : Nat} {d : ByteArray} (hk : k ≤ 21) (hd : d.size ≤ 16) : ∀ e ∈ eY n d k, EntOk e := by
  intro e he
  obtain ⟨i, hi, rfl⟩ := List.mem_map.1 he
  refine bE_ok (by have := List.mem_range.1 hi; omega) ?_
  split
  · exact hd
  · decide
theorem tX_ok {k : Nat} (hk : k ≤ 21) : ∀ t ∈ tX k, EntOk t.2 := by
  intro e he
  obtain ⟨i, hi, rfl⟩ := List.mem_map.1 he
  exact bE_ok (by have := List.mem_range.1 hi; omega) (by decide)

theorem tX_at {k j : Nat} (h : j < k) : (tX k)[j]? = some ((j : Int) + 1, bE j ByteArray.empty) := by
  unfold tX
  rw [List.getElem?_map, List.getElem?_range h]
  rfl
theorem tY_at {n k j : Nat} {d : ByteArray} (h : j < k) : (tY n d k)[j]? = some ((j : Int) + 1, bE j (if j = n then d else ByteArray.empty)) := by
  unfold tY
  rw [List.getElem?_map, List.getElem?_range h]
  rfl
theorem els_snocD (l : List Ent) (e : Ent) : els (l ++ [e]) = els l ++ ecs e := by
  rw [els_append]
  show els l ++ (ecs e ++ []) = _
  rw [List.append_nil]
theorem Rd.oneD (w : World) (e : Ent) : Rd (w.alloc (.cells (ecs e).toArray 30)) (w.alloc (.cells (ecs e).toArray 30)).heap.size (some ⟨w.heap.size, 0, none⟩) 1 7 1 (ecs e) :=
  (Rd.new w (ecs e).toArray 30 7 1 rfl (by unfold maxLen; omega)).tight
theorem tX_take (k m : Nat) (h : k ≤ m) : (tX m).take k = tX k := by
  unfold tX
  rw [← List.map_take, List.take_range, Nat.min_eq_left h]
/-- Two rows of the call's own that are two, both of n. -/
structure Ap (B : Nat) (e : TypeId) (k : Nat) (w : World) (A1 : Option Addr) (n1 c1 : Nat) (xs : List Value) (A2 : Option Addr) (n2 c2 : Nat) (ys : List Value) : Prop where
  l : Ow w B e k A1 n1 c1 xs
  h : Ow w B e k A2 n2 c2 ys
  d : ∀ g, bk A1 = some g → bk A2 ≠ some g
  z : B ≤ w.heap.size
section
variable {B k : Nat} {e : TypeId} {w w' : World} {A1 A2 A' : Option Addr} {n1 c1 n2 c2 n' c' : Nat} {xs ys zs : List Value}
theorem Ap.past (s : Ap B e k w A1 n1 c1 xs A2 n2 c2 ys) (hb : Below w.heap.size w w') : Ap B e k w' A1 n1 c1 xs A2 n2 c2 ys := ⟨s.l.past hb, s.h.past hb, s.d, Nat.le_trans s.z hb.size⟩
theorem Ap.drew (s : Ap B e k w A1 n1 c1 xs A2 n2 c2 ys) : Ap B e k w.drew A1 n1 c1 xs A2 n2 c2 ys := ⟨s.l, s.h, s.d, s.z⟩
theorem ap_low (h : Ow w B e k A1 n1 c1 xs) : ∀ g ∈ bl A1, B ≤ g := fun g hg => h.low g (mem_bl.1 hg)
theorem Ap.left (s : Ap B e k w A1 n1 c1 xs A2 n2 c2 ys) (O : Ow w' B e k A' n' c' zs) (hg : w.grownBy w' (bk A1)) (hn : ∀ g, bk A' = some g → bk A1 = some g ∨ w.heap.size ≤ g) :
    Ap B e k w' A' n' c' zs A2 n2 c2 ys ∧ Below B w w' := by
  have T := Touch.of_bk hg
  refine ⟨⟨O, s.h.touch T (fun g hg => s.d g (mem_bl.1 hg)), fun g h1 h2 => ?_, Nat.le_trans s.z hg.size⟩, T.below (ap_low s.l) s.z⟩
  rcases hn g h1 with h3 | h3
  · exact s.d g h3 h2
  · have := s.h.hi g h2; omega
theorem Ap.right (s : Ap B e k w A1 n1 c1 xs A2 n2 c2 ys) (O : Ow w' B e k A' n' c' zs) (hg : w.grownBy w' (bk A2)) (hn : ∀ g, bk A' = some g → bk A2 = some g ∨ w.heap.size ≤ g) :
    Ap B e k w' A1 n1 c1 xs A' n' c' zs ∧ Below B w w' := by
  have T := Touch.of_bk hg
  refine ⟨⟨s.l.touch T (fun g hg h => s.d g h (mem_bl.1 hg)), O, fun g h1 h2 => ?_, Nat.le_trans s.z hg.size⟩, T.below (ap_low s.h) s.z⟩
  rcases hn g h2 with h3 | h3
  · exact s.d g h1 h3
  · have := s.l.hi g h1; omega
end

set_option maxHeartbeats 8000000 in
set_option maxRecDepth 100000 in
theorem JudgeApart_w (w : World) (x : Int) (d : ByteArray) :
    Calls Try.prog 6 #[.int .i64 x, .string d] w fun e w' => e = .returned (.bool true) ∧ Below w.heap.size w w' := by
  go_enter Try.func6, Try.ntmps6
  go_wp2_with fail
  refine (begunJ_c w).mono ?_
  rintro e w1 ⟨rfl, b1⟩
  have B1 := Lib.hid b1
  clear b1
  by_cases h0 : x < 0
  · go_wp2_with fail
    go_ret
    exact ⟨rfl, B1.out⟩
  by_cases h1 : x > 20
  · go_wp2_with fail
    go_ret
    exact ⟨rfl, B1.out⟩
  by_cases h2 : (d.size : Int) > 16
  · go_wp2_with fail
    go_ret
    exact ⟨rfl, B1.out⟩
  obtain ⟨n, rfl⟩ : ∃ n : Nat, x = n := ⟨x.toNat, by omega⟩
  have hn : n ≤ 20 := by omega
  have hd : d.size ≤ 16 := by omega
  go_wp2_with fail
  have S1 := Lib.hid (show Ap w1.heap.size 32 8 w1 none 0 0 (tls (tX 0)) none 0 0 (tls (tY n d 0)) from ⟨Ow.nil _ _ _ _, Ow.nil _ _ _ _, fun g hg => (by cases hg), Nat.le_refl _⟩)
  have Z1 := Lib.hid (Below.refl w1.heap.size w1)
  generalize hwb : w1.heap.size = bb at S1 Z1
  have HBB := Lib.hid hwb
  clear hwb
  go_loopw [6, 7, 8] (fun s6 s7 s8 wr => ∃ (i : Nat) (A1 : Option Addr) (c1 : Nat) (A2 : Option Addr) (c2 : Nat), i ≤ n + 1 ∧ s8 = .int .i64 i ∧ s6 = .slice A1 i c1 ∧ s7 = .slice A2 i c2 ∧
      Hid (Ap bb 32 8 wr A1 i c1 (tls (tX i)) A2 i c2 (tls (tY n d i))) ∧ Hid (Below bb w1 wr))
    (fun _ _ s8 _ => n + 1 - (intOf s8).toNat)
  case atStart => exact ⟨0, none, 0, none, 0, by omega, rfl, rfl, rfl, S1, Z1⟩
  case round =>
    clear S1 Z1
    obtain ⟨i, A1, c1, A2, c2, hi, rfl, rfl, rfl, SE, BL⟩ := hrel
    by_cases hin : i ≤ n
    · have ev0 : Hid (bE i ByteArray.empty = ⟨1, 1, (i : Int) + 1, 1, 2, 0, ByteArray.empty⟩) := Lib.hid rfl
      generalize hwr : wr = w2 at *
      clear hwr
      have HLO := Lib.hid (SE.out.z)
      have bel := ((Below.refl w2.heap.size w2).alloc (Nat.le_refl _) (.cells #[.int .i64 1, .int .i64 1, .int .i64 ((i : Int) + 1), .int .i64 1, .int .i64 2, .int .i64 0, .string ByteArray.empty] 30)).alloc (by simp) (.cells #[.int .i64 ((i : Int) + 1), .int .i64 1, .int .i64 1, .int .i64 ((i : Int) + 1), .int .i64 1, .int .i64 2, .int .i64 0, .string ByteArray.empty] 32)
      have S2 := SE.out.past bel
      have KE2 := (Blk.new w2 #[.int .i64 1, .int .i64 1, .int .i64 ((i : Int) + 1), .int .i64 1, .int .i64 2, .int .i64 0, .string ByteArray.empty] 30).alloc (.cells #[.int .i64 ((i : Int) + 1), .int .i64 1, .int .i64 1, .int .i64 ((i : Int) + 1), .int .i64 1, .int .i64 2, .int .i64 0, .string ByteArray.empty] 32)
      have RN := Rd.new (w2.alloc (.cells #[.int .i64 1, .int .i64 1, .int .i64 ((i : Int) + 1), .int .i64 1, .int .i64 2, .int .i64 0, .string ByteArray.empty] 30)) #[.int .i64 ((i : Int) + 1), .int .i64 1, .int .i64 1, .int .i64 ((i : Int) + 1), .int .i64 1, .int .i64 2, .int .i64 0, .string ByteArray.empty] 32 8 1 rfl (by unfold maxLen; omega)
      rw [show (w2.alloc (.cells #[.int .i64 1, .int .i64 1, .int .i64 ((i : Int) + 1), .int .i64 1, .int .i64 2, .int .i64 0, .string ByteArray.empty] 30)).heap.size = w2.heap.size + 1 by simp] at RN
      have BL2 := Lib.hid (BL.out.trans (bel.mono SE.out.z))
      have O2 := S2.l
      have hz2 := S2.z
      go_wp2_with (at_builtin; go_must (refine wpList_app2 rfl (.tmp 36) (.tmp 41) 22 rfl bb 32 _ 8 72 Try.underlying22 told_info rfl (by omega) A1 i c1 (tls (tX i)) rfl O2 _ _ 1 1 (tcs ((i : Int) + 1, bE i ByteArray.empty)) rfl RN (tcs_one _) ?c2 ?c3 hz2 ?_))
      case c2 => unfold maxLen; omega
      case c3 => omega
      intro A3 c3 w3 O3 g3 n3
      obtain ⟨s3, b3⟩ := S2.left (zs := tls (tX (i + 1))) (by rw [tX_snoc, tls_snoc]; exact O3) g3 (fun g hg => (n3 g hg).imp_right (fun h => by simp; omega))
      have KE3 := Lib.hid (show Blk w3 w2.heap.size 30 (ecs (bE i ByteArray.empty)) from KE2.touch (Touch.of_bk g3) (fun hm => O2.ne KE2 (by decide) (mem_bl.1 hm)))
      have S3 := Lib.hid s3
      have BL3 := Lib.hid (BL2.out.trans b3)
      clear bel S2 KE2 RN BL2 O2 hz2 O3 g3 n3 s3 b3 SE BL
      by_cases hq : i = n
      · have f6 := KE3.out.free 6
        have k6 := KE3.out.cell (i := 6) rfl
        have S4 := Lib.hid (show Ap bb 32 8 (w3.setCell ⟨w2.heap.size, 6, none⟩ (.string d)) A3 (i + 1) c3 (tls (tX (i + 1))) A2 i c2 (tls (tY n d i)) from
          ⟨S3.out.l.touch (Touch.of_grown (grown_set _ _ _ _)) (by simpa using S3.out.l.ne KE3.out (by decide)), S3.out.h.touch (Touch.of_grown (grown_set _ _ _ _)) (by simpa using S3.out.h.ne KE3.out (by decide)), S3.out.d, by simpa using S3.out.z⟩)
        have KE4 := Lib.hid (show Blk (w3.setCell ⟨w2.heap.size, 6, none⟩ (.string d)) w2.heap.size 30 (ecs (bE i d)) from KE3.out.set 6 _)
        have BL4 := Lib.hid (BL3.out.trans (grown_below (grown_set w3 w2.heap.size 6 (.string d)) HLO.out S3.out.z))
        go_upto_region 14 with fail
        have HQQ := Lib.hid hq
        clear hq
        clear f6 k6 S3 KE3 BL3
        generalize w3.setCell ⟨w2.heap.size, 6, none⟩ (.string d) = w4 at *
        obtain ⟨e0, e1, e2, e3, e4, e5, e6⟩ := Blk.ent (e := bE i d) KE4.out
        simp only [bE] at e0 e1 e2 e3 e4 e5 e6
        have bel := (Below.refl w4.heap.size w4).alloc (Nat.le_refl _) (.cells #[.int .i64 ((i : Int) + 1), .int .i64 1, .int .i64 1, .int .i64 ((i : Int) + 1), .int .i64 1, .int .i64 2, .int .i64 0, .string d] 32)
        have S5 := S4.out.past bel
        have RN := Rd.new w4 #[.int .i64 ((i : Int) + 1), .int .i64 1, .int .i64 1, .int .i64 ((i : Int) + 1), .int .i64 1, .int .i64 2, .int .i64 0, .string d] 32 8 1 rfl (by unfold maxLen; omega)
        have BL5 := Lib.hid (BL4.out.trans (bel.mono S4.out.z))
        have O5 := S5.h
        have hz5 := S5.z
        go_wp2_with (at_builtin; go_must (refine wpList_app2 rfl (.tmp 48) (.tmp 53) 22 rfl bb 32 _ 8 72 Try.underlying22 told_info rfl (by omega) A2 i c2 (tls (tY n d i)) rfl O5 _ _ 1 1 (tcs ((i : Int) + 1, bE i d)) rfl RN (tcs_one _) ?c2 ?c3 hz5 ?_))
        case c2 => unfold maxLen; omega
        case c3 => omega
        intro A5 c5 w5 O5' g5 n5
        obtain ⟨s6, b6⟩ := S5.right (zs := tls (tY n d (i + 1))) (by rw [tY_snoc, tls_snoc, if_pos HQQ.out]; exact O5') g5 (fun g hg => (n5 g hg).imp_right (fun h => by simp at h ⊢; omega))
        have S6 := Lib.hid s6
        have BL6 := Lib.hid (BL5.out.trans b6)
        clear bel S5 RN BL5 O5 hz5 O5' g5 n5 s6 b6 e0 e1 e2 e3 e4 e5 e6 KE4 S4 BL4
        go_wp2_with fail
        go_roundw
        case rel => exact ⟨i + 1, A3, c3, A5, c5, by omega, by go_num, rfl, rfl, S6, BL6⟩
        case measure => simp [intOf]; omega
      · have S4 := S3
        have KE4 := KE3
        have BL4 := BL3
        clear S3 KE3 BL3
        generalize w3 = w4 at *
        go_upto_region 14 with fail
        have HQQ := Lib.hid hq
        clear hq
        obtain ⟨e0, e1, e2, e3, e4, e5, e6⟩ := Blk.ent (e := bE i ByteArray.empty) KE4.out
        simp only [bE] at e0 e1 e2 e3 e4 e5 e6
        have bel := (Below.refl w4.heap.size w4).alloc (Nat.le_refl _) (.cells #[.int .i64 ((i : Int) + 1), .int .i64 1, .int .i64 1, .int .i64 ((i : Int) + 1), .int .i64 1, .int .i64 2, .int .i64 0, .string ByteArray.empty] 32)
        have S5 := S4.out.past bel
        have RN := Rd.new w4 #[.int .i64 ((i : Int) + 1), .int .i64 1, .int .i64 1, .int .i64 ((i : Int) + 1), .int .i64 1, .int .i64 2, .int .i64 0, .string ByteArray.empty] 32 8 1 rfl (by unfold maxLen; omega)
        have BL5 := Lib.hid (BL4.out.trans (bel.mono S4.out.z))
        have O5 := S5.h
        have hz5 := S5.z
        go_wp2_with (at_builtin; go_must (refine wpList_app2 rfl (.tmp 48) (.tmp 53) 22 rfl bb 32 _ 8 72 Try.underlying22 told_info rfl (by omega) A2 i c2 (tls (tY n d i)) rfl O5 _ _ 1 1 (tcs ((i : Int) + 1, bE i ByteArray.empty)) rfl RN (tcs_one _) ?c2 ?c3 hz5 ?_))
        case c2 => unfold maxLen; omega
        case c3 => omega
        intro A5 c5 w5 O5' g5 n5
        obtain ⟨s6, b6⟩ := S5.right (zs := tls (tY n d (i + 1))) (by rw [tY_snoc, tls_snoc, if_neg HQQ.out]; exact O5') g5 (fun g hg => (n5 g hg).imp_right (fun h => by simp at h ⊢; omega))
        have S6 := Lib.hid s6
        have BL6 := Lib.hid (BL5.out.trans b6)
        clear bel S5 RN BL5 O5 hz5 O5' g5 n5 s6 b6 e0 e1 e2 e3 e4 e5 e6 KE4 S4 BL4
        go_wp2_with fail
        go_roundw
        case rel => exact ⟨i + 1, A3, c3, A5, c5, by omega, by go_num, rfl, rfl, S6, BL6⟩
        case measure => simp [intOf]; omega
    · obtain rfl : i = n + 1 := by omega
      have RA := Lib.hid SE.out.l.rd
      have RB := Lib.hid SE.out.h.rd
      have B2 := Lib.hid (show Below w.heap.size w wr from B1.out.trans (by have := BL.out; rw [← HBB.out] at this; exact this.mono B1.out.size))
      clear SE BL HBB B1 hin hi
      generalize wr = w2 at *
      go_wp2_with fail
      have S1 := Lib.hid (show Ap w2.heap.size 30 7 w2 none 0 0 (els (eX 0)) none 0 0 (els (eY n d 0)) from ⟨Ow.nil _ _ _ _, Ow.nil _ _ _ _, fun g hg => (by cases hg), Nat.le_refl _⟩)
      have Z1 := Lib.hid (Below.refl w2.heap.size w2)
      have BB := Lib.hid B2.out.size
      generalize hwb : w2.heap.size = cc at S1 Z1 RA RB BB
      clear hwb
      go_loopw [10, 11, 12] (fun s10 s11 s12 wr => ∃ (j : Nat) (A3 : Option Addr) (c3 : Nat) (A4 : Option Addr) (c4 : Nat), j ≤ n + 1 ∧ s12 = .int .i64 j ∧ s10 = .slice A3 j c3 ∧ s11 = .slice A4 j c4 ∧
          Hid (Ap cc 30 7 wr A3 j c3 (els (eX j)) A4 j c4 (els (eY n d j))) ∧ Hid (Below cc w2 wr))
        (fun _ _ s12 _ => n + 1 - (intOf s12).toNat)
      case atStart => exact ⟨0, none, 0, none, 0, by omega, rfl, rfl, rfl, S1, Z1⟩
      case round =>
        clear S1 Z1
        obtain ⟨j, A3, c3, A4, c4, hj, rfl, rfl, rfl, SE, BL⟩ := hrel
        by_cases hjn : j ≤ n
        · obtain ⟨b, o, t, eA, hb, ht, -, hr⟩ := (RA.out.below BL.out).told (i := j) (by omega)
          cases eA
          obtain rfl := Option.some.inj (ht.symm.trans (tX_at (by omega)))
          obtain ⟨b', o', t, eA, hb', ht', -, hr'⟩ := (RB.out.below BL.out).told (i := j) (by omega)
          cases eA
          obtain rfl := Option.some.inj (ht'.symm.trans (tY_at (by omega)))
          obtain ⟨F, hF⟩ : ∃ F, bE j (if j = n then d else ByteArray.empty) = F := ⟨_, rfl⟩
          rw [hF] at hr'
          have HF := Lib.hid hF
          have HE := Lib.hid hb
          have HE' := Lib.hid hb'
          have HR := Lib.hid (show wr.drew.rangeAt b (o + j * 8) (tcs ((j : Int) + 1, bE j ByteArray.empty)) from hr)
          have HR' := Lib.hid (show wr.drew.rangeAt b' (o' + j * 8) (tcs ((j : Int) + 1, F)) from hr')
          have S0 := Lib.hid SE.out.drew
          have L0 := Lib.hid (show Below cc w2 wr.drew from BL.out.drew)
          clear hb hb' ht ht' hr hr' hF SE BL
          go_wp2_with fail
          refine Hb.beginB (B := cc) ?_
          generalize wr.drew = x0 at *
          refine Hb.take (v := .slice A3 j c3) 0 60 rfl ?_ (fun _ _ => rfl)
          refine Hb.take (v := .slice (some ⟨b, o, none⟩) (n + 1) c1) 1 61 rfl ?_ (fun _ _ => rfl)
          refine Hb.take (v := .int .i64 (j : Int)) 2 62 rfl ?_ (fun _ _ => rfl)
          refine Hb.take (v := .pointer (some ⟨b, o + j * 8, none⟩)) 3 63 rfl ?_ (fun w' hw' => by go_simp; first | done | rfl | omega | exact wrap_in (by omega) (by omega) | exact Int.tmod_eq_emod_of_nonneg (by omega) | exact Int.tdiv_eq_ediv_of_nonneg (by omega) | (simp; omega))
          refine Hb.take (v := .pointer (some ⟨b, o + j * 8 + 1, none⟩)) 4 64 rfl ?_ (fun w' hw' => by go_simp; first | done | rfl | omega | exact wrap_in (by omega) (by omega) | exact Int.tmod_eq_emod_of_nonneg (by omega) | exact Int.tdiv_eq_ediv_of_nonneg (by omega) | (simp; omega))
          refine Hb.take (v := ev (bE j ByteArray.empty)) 5 65 rfl ?_ (fun w' hw' => by exact run_loadE (range_ent (rangeAt_below HR.out hw' HE.out)) rfl)
          refine Hb.take (v := .slice A4 j c4) 8 68 rfl ?_ (fun _ _ => rfl)
          refine Hb.take (v := .slice (some ⟨b', o', none⟩) (n + 1) c2) 9 69 rfl ?_ (fun _ _ => rfl)
          refine Hb.take (v := .int .i64 (j : Int)) 10 70 rfl ?_ (fun _ _ => rfl)
          refine Hb.take (v := .pointer (some ⟨b', o' + j * 8, none⟩)) 11 71 rfl ?_ (fun w' hw' => by go_simp; first | done | rfl | omega | exact wrap_in (by omega) (by omega) | exact Int.tmod_eq_emod_of_nonneg (by omega) | exact Int.tdiv_eq_ediv_of_nonneg (by omega) | (simp; omega))
          refine Hb.take (v := .pointer (some ⟨b', o' + j * 8 + 1, none⟩)) 12 72 rfl ?_ (fun w' hw' => by go_simp; first | done | rfl | omega | exact wrap_in (by omega) (by omega) | exact Int.tmod_eq_emod_of_nonneg (by omega) | exact Int.tdiv_eq_ediv_of_nonneg (by omega) | (simp; omega))
          refine Hb.take (v := ev F) 13 73 rfl ?_ (fun w' hw' => by exact run_loadE (range_ent (rangeAt_below HR'.out hw' HE'.out)) rfl)
          refine Hb.two 6 14 ?_ ?_
          · skip
            refine Hb.pick 6 (some 66) rfl ?_
            refine wpList_buildE rfl (.tmp 65) rfl (bE j ByteArray.empty) rfl ?_
            have bel := (Below.refl x0.heap.size x0).alloc (Nat.le_refl _) (.cells (ecs (bE j ByteArray.empty)).toArray 30)
            have N6 := Lib.hid (Rd.oneD x0 (bE j ByteArray.empty))
            have S1 := Lib.hid (S0.out.past bel)
            have L1 := Lib.hid (L0.out.trans (bel.mono S0.out.z))
            refine Hb.next (bel.mono S0.out.z) (Nat.le_refl _) ?_ (by simp only [Act.put, List.setIfInBounds_toArray, List.set_cons_succ, List.set_cons_zero]; rfl)
            clear bel S0 L0
            generalize x0.alloc (.cells (ecs (bE j ByteArray.empty)).toArray 30) = x1 at *
            refine Hb.two 7 14 ?_ ?_
            · skip
              refine Hb.pick 7 (some 67) rfl ?_
              refine wpList_app2 rfl (.tmp 60) (.tmp 66) 23 rfl cc 30 _ 7 64 Try.underlying23 ent_info rfl (by omega) A3 j c3 (els (eX j)) rfl S1.out.l _ _ 1 1 (ecs (bE j ByteArray.empty)) rfl N6.out (ecs_one _) ?d1 ?d2 S1.out.z ?_
              case d1 => unfold maxLen; omega
              case d2 => omega
              intro A5 c5 x2 O g n5
              obtain ⟨s, b5⟩ := S1.out.left (zs := els (eX (j + 1))) (by rw [eX_snoc, els_snocD]; exact O) g n5
              have S2 := Lib.hid s
              have L2 := Lib.hid (L1.out.trans b5)
              refine Hb.next b5 (Nat.le_refl _) ?_ (by simp only [Act.put, List.setIfInBounds_toArray, List.set_cons_succ, List.set_cons_zero]; rfl)
              clear O g n5 s b5 S1 L1
              refine Hb.only 14 (some 74) rfl ?_
              refine wpList_buildE rfl (.tmp 73) rfl (F) rfl ?_
              have bel := (Below.refl x2.heap.size x2).alloc (Nat.le_refl _) (.cells (ecs (F)).toArray 30)
              have N14 := Lib.hid (Rd.oneD x2 (F))
              have S3 := Lib.hid (S2.out.past bel)
              have L3 := Lib.hid (L2.out.trans (bel.mono S2.out.z))
              refine Hb.next (bel.mono S2.out.z) (Nat.le_refl _) ?_ (by simp only [Act.put, List.setIfInBounds_toArray, List.set_cons_succ, List.set_cons_zero]; rfl)
              clear bel S2 L2
              generalize x2.alloc (.cells (ecs (F)).toArray 30) = x3 at *
              refine Hb.only 15 (some 75) rfl ?_
              refine wpList_app2 rfl (.tmp 68) (.tmp 74) 23 rfl cc 30 _ 7 64 Try.underlying23 ent_info rfl (by omega) A4 j c4 (els (eY n d j)) rfl S3.out.h _ _ 1 1 (ecs (F)) rfl N14.out (ecs_one _) ?d1 ?d2 S3.out.z ?_
              case d1 => unfold maxLen; omega
              case d2 => omega
              intro A6 c6 x4 O g n5
              obtain ⟨s, b5⟩ := S3.out.right (zs := els (eY n d (j + 1))) (by rw [eY_snoc, els_snocD, HF.out]; exact O) g n5
              have S4 := Lib.hid s
              have L4 := Lib.hid (L3.out.trans b5)
              refine Hb.next b5 (Nat.le_refl _) ?_ (by simp only [Act.put, List.setIfInBounds_toArray, List.set_cons_succ, List.set_cons_zero]; rfl)
              clear O g n5 s b5 S3 L3
              refine Hb.take (v := .slice A5 (j + 1) c5) 16 10 rfl ?_ (fun _ _ => rfl)
              refine Hb.take (v := .slice A6 (j + 1) c6) 17 11 rfl ?_ (fun _ _ => rfl)
              refine Hb.done ?_
              go_wp2_with fail
              go_roundw
              case rel => exact ⟨j + 1, A5, c5, A6, c6, by omega, by go_num, rfl, rfl, S4, L4⟩
              case measure => simp [intOf]; omega
            · skip
              refine Hb.pick 14 (some 74) rfl ?_
              refine wpList_buildE rfl (.tmp 73) rfl (F) rfl ?_
              have bel := (Below.refl x1.heap.size x1).alloc (Nat.le_refl _) (.cells (ecs (F)).toArray 30)
              have N14 := Lib.hid (Rd.oneD x1 (F))
              have H14 := Lib.hid (show ∀ g, bk A3 = some g → g ≠ x1.heap.size from fun g hg => Nat.ne_of_lt (S1.out.l.hi g hg))
              have S2 := Lib.hid (S1.out.past bel)
              have L2 := Lib.hid (L1.out.trans (bel.mono S1.out.z))
              have N6 := Lib.hid (N6.out.past bel).tight
              refine Hb.next (bel.mono S1.out.z) (Nat.le_refl _) ?_ (by simp only [Act.put, List.setIfInBounds_toArray, List.set_cons_succ, List.set_cons_zero]; rfl)
              clear bel S1 L1
              generalize x1.alloc (.cells (ecs (F)).toArray 30) = x2 at *
              refine Hb.only 7 (some 67) rfl ?_
              refine wpList_app2 rfl (.tmp 60) (.tmp 66) 23 rfl cc 30 _ 7 64 Try.underlying23 ent_info rfl (by omega) A3 j c3 (els (eX j)) rfl S2.out.l _ _ 1 1 (ecs (bE j ByteArray.empty)) rfl N6.out (ecs_one _) ?d1 ?d2 S2.out.z ?_
              case d1 => unfold maxLen; omega
              case d2 => omega
              intro A5 c5 x3 O g n5
              obtain ⟨s, b5⟩ := S2.out.left (zs := els (eX (j + 1))) (by rw [eX_snoc, els_snocD]; exact O) g n5
              have N14 := Lib.hid (N14.out.touch (Touch.of_bk g) (fun _ s hs h => H14.out s (mem_bl.1 hs) (Option.some.inj h).symm)).tight
              have S3 := Lib.hid s
              have L3 := Lib.hid (L2.out.trans b5)
              refine Hb.next b5 (Nat.le_refl _) ?_ (by simp only [Act.put, List.setIfInBounds_toArray, List.set_cons_succ, List.set_cons_zero]; rfl)
              clear O g n5 s b5 S2 L2
              refine Hb.only 15 (some 75) rfl ?_
              refine wpList_app2 rfl (.tmp 68) (.tmp 74) 23 rfl cc 30 _ 7 64 Try.underlying23 ent_info rfl (by omega) A4 j c4 (els (eY n d j)) rfl S3.out.h _ _ 1 1 (ecs (F)) rfl N14.out (ecs_one _) ?d1 ?d2 S3.out.z ?_
              case d1 => unfold maxLen; omega
              case d2 => omega
              intro A6 c6 x4 O g n5
              obtain ⟨s, b5⟩ := S3.out.right (zs := els (eY n d (j + 1))) (by rw [eY_snoc, els_snocD, HF.out]; exact O) g n5
              have S4 := Lib.hid s
              have L4 := Lib.hid (L3.out.trans b5)
              refine Hb.next b5 (Nat.le_refl _) ?_ (by simp only [Act.put, List.setIfInBounds_toArray, List.set_cons_succ, List.set_cons_zero]; rfl)
              clear O g n5 s b5 S3 L3
              refine Hb.take (v := .slice A5 (j + 1) c5) 16 10 rfl ?_ (fun _ _ => rfl)
              refine Hb.take (v := .slice A6 (j + 1) c6) 17 11 rfl ?_ (fun _ _ => rfl)
              refine Hb.done ?_
              go_wp2_with fail
              go_roundw
              case rel => exact ⟨j + 1, A5, c5, A6, c6, by omega, by go_num, rfl, rfl, S4, L4⟩
              case measure => simp [intOf]; omega
          · skip
            refine Hb.pick 14 (some 74) rfl ?_
            refine wpList_buildE rfl (.tmp 73) rfl (F) rfl ?_
            have bel := (Below.refl x0.heap.size x0).alloc (Nat.le_refl _) (.cells (ecs (F)).toArray 30)
            have N14 := Lib.hid (Rd.oneD x0 (F))
            have H14 := Lib.hid (show ∀ g, bk A3 = some g → g ≠ x0.heap.size from fun g hg => Nat.ne_of_lt (S0.out.l.hi g hg))
            have S1 := Lib.hid (S0.out.past bel)
            have L1 := Lib.hid (L0.out.trans (bel.mono S0.out.z))
            refine Hb.next (bel.mono S0.out.z) (Nat.le_refl _) ?_ (by simp only [Act.put, List.setIfInBounds_toArray, List.set_cons_succ, List.set_cons_zero]; rfl)
            clear bel S0 L0
            generalize x0.alloc (.cells (ecs (F)).toArray 30) = x1 at *
            refine Hb.only 6 (some 66) rfl ?_
            refine wpList_buildE rfl (.tmp 65) rfl (bE j ByteArray.empty) rfl ?_
            have bel := (Below.refl x1.heap.size x1).alloc (Nat.le_refl _) (.cells (ecs (bE j ByteArray.empty)).toArray 30)
            have N6 := Lib.hid (Rd.oneD x1 (bE j ByteArray.empty))
            have S2 := Lib.hid (S1.out.past bel)
            have L2 := Lib.hid (L1.out.trans (bel.mono S1.out.z))
            have N14 := Lib.hid (N14.out.past bel).tight
            refine Hb.next (bel.mono S1.out.z) (Nat.le_refl _) ?_ (by simp only [Act.put, List.setIfInBounds_toArray, List.set_cons_succ, List.set_cons_zero]; rfl)
            clear bel S1 L1
            generalize x1.alloc (.cells (ecs (bE j ByteArray.empty)).toArray 30) = x2 at *
            refine Hb.only 7 (some 67) rfl ?_
            refine wpList_app2 rfl (.tmp 60) (.tmp 66) 23 rfl cc 30 _ 7 64 Try.underlying23 ent_info rfl (by omega) A3 j c3 (els (eX j)) rfl S2.out.l _ _ 1 1 (ecs (bE j ByteArray.empty)) rfl N6.out (ecs_one _) ?d1 ?d2 S2.out.z ?_
            case d1 => unfold maxLen; omega
            case d2 => omega
            intro A5 c5 x3 O g n5
            obtain ⟨s, b5⟩ := S2.out.left (zs := els (eX (j + 1))) (by rw [eX_snoc, els_snocD]; exact O) g n5
            have N14 := Lib.hid (N14.out.touch (Touch.of_bk g) (fun _ s hs h => H14.out s (mem_bl.1 hs) (Option.some.inj h).symm)).tight
            have S3 := Lib.hid s
            have L3 := Lib.hid (L2.out.trans b5)
            refine Hb.next b5 (Nat.le_refl _) ?_ (by simp only [Act.put, List.setIfInBounds_toArray, List.set_cons_succ, List.set_cons_zero]; rfl)
            clear O g n5 s b5 S2 L2
            refine Hb.only 15 (some 75) rfl ?_
            refine wpList_app2 rfl (.tmp 68) (.tmp 74) 23 rfl cc 30 _ 7 64 Try.underlying23 ent_info rfl (by omega) A4 j c4 (els (eY n d j)) rfl S3.out.h _ _ 1 1 (ecs (F)) rfl N14.out (ecs_one _) ?d1 ?d2 S3.out.z ?_
            case d1 => unfold maxLen; omega
            case d2 => omega
            intro A6 c6 x4 O g n5
            obtain ⟨s, b5⟩ := S3.out.right (zs := els (eY n d (j + 1))) (by rw [eY_snoc, els_snocD, HF.out]; exact O) g n5
            have S4 := Lib.hid s
            have L4 := Lib.hid (L3.out.trans b5)
            refine Hb.next b5 (Nat.le_refl _) ?_ (by simp only [Act.put, List.setIfInBounds_toArray, List.set_cons_succ, List.set_cons_zero]; rfl)
            clear O g n5 s b5 S3 L3
            refine Hb.take (v := .slice A5 (j + 1) c5) 16 10 rfl ?_ (fun _ _ => rfl)
            refine Hb.take (v := .slice A6 (j + 1) c6) 17 11 rfl ?_ (fun _ _ => rfl)
            refine Hb.done ?_
            go_wp2_with fail
            go_roundw
            case rel => exact ⟨j + 1, A5, c5, A6, c6, by omega, by go_num, rfl, rfl, S4, L4⟩
            case measure => simp [intOf]; omega
        · obtain rfl : j = n + 1 := by omega
          have RX := Lib.hid SE.out.l.rd
          have RY := Lib.hid SE.out.h.rd
          have RA := Lib.hid (RA.out.below BL.out).tight
          have RB := Lib.hid (RB.out.below BL.out).tight
          have BL := Lib.hid (show Below w.heap.size w wr from B2.out.trans (BL.out.mono BB.out))
          clear SE B2 BB hjn hj
          generalize wr = w3 at *
          cases hs : d.toList.isEmpty
          · have HS := Lib.hid (show sm d = false by rw [sm_eq]; exact hs)
            go_wp2_with fail
            refine (jPrefix_c w3 _ _ A1 A2 c1 c2 (n + 1) (n + 1) (tX (n + 1)) (tY n d (n + 1)) RA.out RB.out (by omega) (by omega)).mono ?_
            rw [prefix_all, HS.out]
            rintro e w4 ⟨rfl, b4⟩
            have RA := Lib.hid (RA.out.past b4).tight
            have RB := Lib.hid (RB.out.past b4).tight
            have RX := Lib.hid (RX.out.past b4).tight
            have RY := Lib.hid (RY.out.past b4).tight
            have BL := Lib.hid (BL.out.trans (b4.mono BL.out.size))
            clear b4
            go_wp2_with ((with_reducible show wpList _ _ _ ((⟨some 86, Op.slice _ _ _ _ _, _, _, _, _⟩ : Oper) :: _) _ _); go_must (refine wpList_unguard rfl ?_; refine wpList_cut rfl 22 (.tmp 84) none (some (.tmp 85)) rfl 32 _ 8 72 Try.underlying22 told_info w4.heap.size A1 c1 (n + 1) (tls (tX (n + 1))) rfl RA.out 0 n (.inl ⟨rfl, rfl⟩) (.inr rfl) (Nat.zero_le _) (by omega) ?_))
            intro A7 c7 r7
            have R7 := Lib.hid (show Rd w4 w4.heap.size A7 c7 8 n (tls (tX n)) from by
              have h : Rd w4 w4.heap.size A7 c7 8 n ((tls (tX (n + 1))).take (n * 8)) := r7
              rw [tls_take, tX_take n (n + 1) (by omega)] at h
              exact h)
            clear r7
            go_wp2_with fail
            refine (jPrefix_c w4 _ _ A7 A2 c7 c2 n (n + 1) (tX n) (tY n d (n + 1)) R7.out RB.out (by omega) (by omega)).mono ?_
            rw [prefix_low]
            rintro e w5 ⟨rfl, b5⟩
            have RA := Lib.hid (RA.out.past b5).tight
            have RX := Lib.hid (RX.out.past b5).tight
            have RY := Lib.hid (RY.out.past b5).tight
            have BL := Lib.hid (BL.out.trans (b5.mono BL.out.size))
            clear b5 R7
            go_wp2_with fail
            refine (jAgree_c w5 _ _ A3 A4 c3 c4 (n + 1) (n + 1) (eX (n + 1)) (eY n d (n + 1)) RX.out RY.out ((n : Int) + 1) ((n : Int) + 1) (by omega) (by omega)).mono ?_
            rw [agree_all, HS.out]
            rintro e w6 ⟨rfl, b6⟩
            have RA := Lib.hid (RA.out.past b6).tight
            have RX := Lib.hid (RX.out.past b6).tight
            have RY := Lib.hid (RY.out.past b6).tight
            have BL := Lib.hid (BL.out.trans (b6.mono BL.out.size))
            clear b6
            go_wp2_with fail
            refine (jAgree_c w6 _ _ A3 A4 c3 c4 (n + 1) (n + 1) (eX (n + 1)) (eY n d (n + 1)) RX.out RY.out (n : Int) ((n : Int) + 1) (by omega) (by omega)).mono ?_
            rw [agree_low]
            rintro e w7 ⟨rfl, b7⟩
            have RA := Lib.hid (RA.out.past b7).tight
            have RX := Lib.hid (RX.out.past b7).tight
            have RY := Lib.hid (RY.out.past b7).tight
            have BL := Lib.hid (BL.out.trans (b7.mono BL.out.size))
            clear b7
            go_wp2_with fail
            refine (jCast_c w7 _ _ A1 A4 c1 c4 (n + 1) (n + 1) (tX (n + 1)) (eY n d (n + 1)) RA.out RY.out (by omega) (by omega) (tX_ok (by omega)) (eY_ok (by omega) hd)).mono ?_
            rw [tX_snd, castAp_all, HS.out]
            rintro e w8 ⟨rfl, b8⟩
            have RX := Lib.hid (RX.out.past b8).tight
            have BL := Lib.hid (BL.out.trans (b8.mono BL.out.size))
            clear b8
            go_wp2_with fail
            refine (lEntries_c w8 A3 c3 (n + 1) (eX (n + 1)) 99 RX.out (eX_ok (by omega)) (by omega) (by omega)).mono ?_
            rintro e w9 ⟨A9, c9, es, rfl, hes, -, -, b9⟩
            have HN9 := Lib.hid (show es.length = n + 1 by rw [hes]; omega)
            rw [HN9.out]
            have BL := Lib.hid (BL.out.trans (b9.mono BL.out.size))
            clear b9 hes
            go_wp2_with fail
            go_ret
            exact ⟨rfl, BL.out⟩
          · have HS := Lib.hid (show sm d = true by rw [sm_eq]; exact hs)
            go_wp2_with fail
            refine (jPrefix_c w3 _ _ A1 A2 c1 c2 (n + 1) (n + 1) (tX (n + 1)) (tY n d (n + 1)) RA.out RB.out (by omega) (by omega)).mono ?_
            rw [prefix_all, HS.out]
            rintro e w4 ⟨rfl, b4⟩
            have RA := Lib.hid (RA.out.past b4).tight
            have RB := Lib.hid (RB.out.past b4).tight
            have RX := Lib.hid (RX.out.past b4).tight
            have RY := Lib.hid (RY.out.past b4).tight
            have BL := Lib.hid (BL.out.trans (b4.mono BL.out.size))
            clear b4
            go_wp2_with ((with_reducible show wpList _ _ _ ((⟨some 86, Op.slice _ _ _ _ _, _, _, _, _⟩ : Oper) :: _) _ _); go_must (refine wpList_unguard rfl ?_; refine wpList_cut rfl 22 (.tmp 84) none (some (.tmp 85)) rfl 32 _ 8 72 Try.underlying22 told_info w4.heap.size A1 c1 (n + 1) (tls (tX (n + 1))) rfl RA.out 0 n (.inl ⟨rfl, rfl⟩) (.inr rfl) (Nat.zero_le _) (by omega) ?_))
            intro A7 c7 r7
            have R7 := Lib.hid (show Rd w4 w4.heap.size A7 c7 8 n (tls (tX n)) from by
              have h : Rd w4 w4.heap.size A7 c7 8 n ((tls (tX (n + 1))).take (n * 8)) := r7
              rw [tls_take, tX_take n (n + 1) (by omega)] at h
              exact h)
            clear r7
            go_wp2_with fail
            refine (jPrefix_c w4 _ _ A7 A2 c7 c2 n (n + 1) (tX n) (tY n d (n + 1)) R7.out RB.out (by omega) (by omega)).mono ?_
            rw [prefix_low]
            rintro e w5 ⟨rfl, b5⟩
            have RA := Lib.hid (RA.out.past b5).tight
            have RX := Lib.hid (RX.out.past b5).tight
            have RY := Lib.hid (RY.out.past b5).tight
            have BL := Lib.hid (BL.out.trans (b5.mono BL.out.size))
            clear b5 R7
            go_wp2_with fail
            refine (jAgree_c w5 _ _ A3 A4 c3 c4 (n + 1) (n + 1) (eX (n + 1)) (eY n d (n + 1)) RX.out RY.out ((n : Int) + 1) ((n : Int) + 1) (by omega) (by omega)).mono ?_
            rw [agree_all, HS.out]
            rintro e w6 ⟨rfl, b6⟩
            have RA := Lib.hid (RA.out.past b6).tight
            have RX := Lib.hid (RX.out.past b6).tight
            have RY := Lib.hid (RY.out.past b6).tight
            have BL := Lib.hid (BL.out.trans (b6.mono BL.out.size))
            clear b6
            go_wp2_with fail
            refine (jAgree_c w6 _ _ A3 A4 c3 c4 (n + 1) (n + 1) (eX (n + 1)) (eY n d (n + 1)) RX.out RY.out (n : Int) ((n : Int) + 1) (by omega) (by omega)).mono ?_
            rw [agree_low]
            rintro e w7 ⟨rfl, b7⟩
            have RA := Lib.hid (RA.out.past b7).tight
            have RX := Lib.hid (RX.out.past b7).tight
            have RY := Lib.hid (RY.out.past b7).tight
            have BL := Lib.hid (BL.out.trans (b7.mono BL.out.size))
            clear b7
            go_wp2_with fail
            refine (jCast_c w7 _ _ A1 A4 c1 c4 (n + 1) (n + 1) (tX (n + 1)) (eY n d (n + 1)) RA.out RY.out (by omega) (by omega) (tX_ok (by omega)) (eY_ok (by omega) hd)).mono ?_
            rw [tX_snd, castAp_all, HS.out]
            rintro e w8 ⟨rfl, b8⟩
            have RX := Lib.hid (RX.out.past b8).tight
            have BL := Lib.hid (BL.out.trans (b8.mono BL.out.size))
            clear b8
            go_wp2_with fail
            refine (lEntries_c w8 A3 c3 (n + 1) (eX (n + 1)) 99 RX.out (eX_ok (by omega)) (by omega) (by omega)).mono ?_
            rintro e w9 ⟨A9, c9, es, rfl, hes, -, -, b9⟩
            have HN9 := Lib.hid (show es.length = n + 1 by rw [hes]; omega)
            rw [HN9.out]
            have BL := Lib.hid (BL.out.trans (b9.mono BL.out.size))
            clear b9 hes
            go_wp2_with fail
            go_ret
            exact ⟨rfl, BL.out⟩
end Go.Proofs.Ytkpgijmpaklfgaa
