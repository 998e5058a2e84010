/- What every law of this seat begins with. -/
import Derived.Test.YtkpgijmpaklfgaaJudL
import Derived.Test.YtkpgijmpaklfgaaJudC
import Derived.Test.YtkpgijmpaklfgaaKit2
import Derived.BigRegion
namespace Go.Proofs.Ytkpgijmpaklfgaa
open Go.RowKit PReady PJud

def eE : Ent := ⟨1, 1, 1, 1, 1, 0, ByteArray.empty⟩
def eF : Ent := ⟨1, 1, 2, 1, 1, 0, ByteArray.empty⟩
theorem Rd.ofBlk {w : World} {g k n : Nat} {t : TypeId} {xs : List Value} (h : Blk w g t xs) (hn : xs.length = n * k) (hm : n ≤ maxLen) : Rd w w.heap.size (some ⟨g, 0, none⟩) n k n xs :=
  ⟨hn, Nat.le_refl _, hm, fun hh => (by cases hh), fun _ => ⟨g, 0, rfl, h.lt, fun j u hu => by rw [Nat.zero_add]; exact h.cell hu⟩⟩
theorem Ow.ofBlk {w : World} {g k n base : Nat} {t : TypeId} {xs : List Value} (h : Blk w g t xs) (hn : xs.length = n * k) (hm : n ≤ maxLen) (hb : base ≤ g) : Ow w base t k (Option.some ⟨g, 0, none⟩) n n xs :=
  And.intro hn (Or.inr ⟨g, [], rfl, hb, by rw [List.append_nil]; exact h, Nat.le_refl _, hm, by rw [List.append_nil, hn]; exact Nat.le_refl _⟩)
theorem Ow.drew {w : World} {base k n c : Nat} {e : TypeId} {A : Option Addr} {xs : List Value} (h : Ow w base e k A n c xs) : Ow w.drew base e k A n c xs := h
/-- The two entries, the two lists that were told. -/
def St0 (w W : World) (x y : Nat) : Prop := Below w.heap.size w W ∧ Blk W w.heap.size 30 (ecs eE) ∧ Blk W (w.heap.size + 1) 30 (ecs eF) ∧ Blk W x 32 (tls [(1, eE)]) ∧ Blk W y 32 (tls [(1, eE), (2, eF)])
theorem st0_a (w : World) : St0 w ((((w.alloc (.cells #[.int .i64 1, .int .i64 1, .int .i64 1, .int .i64 1, .int .i64 1, .int .i64 0, .string { data := #[] }] 30)).alloc (.cells #[.int .i64 1, .int .i64 1, .int .i64 2, .int .i64 1, .int .i64 1, .int .i64 0, .string { data := #[] }] 30)).alloc (.cells #[.int .i64 1, .int .i64 1, .int .i64 1, .int .i64 1, .int .i64 1, .int .i64 1, .int .i64 0, .string { data := #[] }] 32)).alloc (.cells #[.int .i64 1, .int .i64 1, .int .i64 1, .int .i64 1, .int .i64 1, .int .i64 1, .int .i64 0, .string { data := #[] }, .int .i64 2, .int .i64 1, .int .i64 1, .int .i64 2, .int .i64 1, .int .i64 1, .int .i64 0, .string { data := #[] }] 32)) (w.heap.size + 1 + 1) (w.heap.size + 1 + 1 + 1) := by
  have b0 := (Below.refl w.heap.size w).alloc (Nat.le_refl _) (.cells #[.int .i64 1, .int .i64 1, .int .i64 1, .int .i64 1, .int .i64 1, .int .i64 0, .string { data := #[] }] 30)
  have b1 := b0.alloc (by simp) (.cells #[.int .i64 1, .int .i64 1, .int .i64 2, .int .i64 1, .int .i64 1, .int .i64 0, .string { data := #[] }] 30)
  have b2 := b1.alloc (by simp; omega) (.cells #[.int .i64 1, .int .i64 1, .int .i64 1, .int .i64 1, .int .i64 1, .int .i64 1, .int .i64 0, .string { data := #[] }] 32)
  have b3 := b2.alloc (by simp; omega) (.cells #[.int .i64 1, .int .i64 1, .int .i64 1, .int .i64 1, .int .i64 1, .int .i64 1, .int .i64 0, .string { data := #[] }, .int .i64 2, .int .i64 1, .int .i64 1, .int .i64 2, .int .i64 1, .int .i64 1, .int .i64 0, .string { data := #[] }] 32)
  have s1 : (w.alloc (.cells #[.int .i64 1, .int .i64 1, .int .i64 1, .int .i64 1, .int .i64 1, .int .i64 0, .string { data := #[] }] 30)).heap.size = w.heap.size + 1 := by simp
  have s2 : ((w.alloc (.cells #[.int .i64 1, .int .i64 1, .int .i64 1, .int .i64 1, .int .i64 1, .int .i64 0, .string { data := #[] }] 30)).alloc (.cells #[.int .i64 1, .int .i64 1, .int .i64 2, .int .i64 1, .int .i64 1, .int .i64 0, .string { data := #[] }] 30)).heap.size = w.heap.size + 1 + 1 := by simp
  have s3 : (((w.alloc (.cells #[.int .i64 1, .int .i64 1, .int .i64 1, .int .i64 1, .int .i64 1, .int .i64 0, .string { data := #[] }] 30)).alloc (.cells #[.int .i64 1, .int .i64 1, .int .i64 2, .int .i64 1, .int .i64 1, .int .i64 0, .string { data := #[] }] 30)).alloc (.cells #[.int .i64 1, .int .i64 1, .int .i64 1, .int .i64 1, .int .i64 1, .int .i64 1, .int .i64 0, .string { data := #[] }] 32)).heap.size = w.heap.size + 1 + 1 + 1 := by simp
  have k0 := (((Blk.new w #[.int .i64 1, .int .i64 1, .int .i64 1, .int .i64 1, .int .i64 1, .int .i64 0, .string { data := #[] }] 30).alloc (.cells #[.int .i64 1, .int .i64 1, .int .i64 2, .int .i64 1, .int .i64 1, .int .i64 0, .string { data := #[] }] 30)).alloc (.cells #[.int .i64 1, .int .i64 1, .int .i64 1, .int .i64 1, .int .i64 1, .int .i64 1, .int .i64 0, .string { data := #[] }] 32)).alloc (.cells #[.int .i64 1, .int .i64 1, .int .i64 1, .int .i64 1, .int .i64 1, .int .i64 1, .int .i64 0, .string { data := #[] }, .int .i64 2, .int .i64 1, .int .i64 1, .int .i64 2, .int .i64 1, .int .i64 1, .int .i64 0, .string { data := #[] }] 32)
  have k1 := ((Blk.new (w.alloc (.cells #[.int .i64 1, .int .i64 1, .int .i64 1, .int .i64 1, .int .i64 1, .int .i64 0, .string { data := #[] }] 30)) #[.int .i64 1, .int .i64 1, .int .i64 2, .int .i64 1, .int .i64 1, .int .i64 0, .string { data := #[] }] 30).alloc (.cells #[.int .i64 1, .int .i64 1, .int .i64 1, .int .i64 1, .int .i64 1, .int .i64 1, .int .i64 0, .string { data := #[] }] 32)).alloc (.cells #[.int .i64 1, .int .i64 1, .int .i64 1, .int .i64 1, .int .i64 1, .int .i64 1, .int .i64 0, .string { data := #[] }, .int .i64 2, .int .i64 1, .int .i64 1, .int .i64 2, .int .i64 1, .int .i64 1, .int .i64 0, .string { data := #[] }] 32)
  have k2 := (Blk.new ((w.alloc (.cells #[.int .i64 1, .int .i64 1, .int .i64 1, .int .i64 1, .int .i64 1, .int .i64 0, .string { data := #[] }] 30)).alloc (.cells #[.int .i64 1, .int .i64 1, .int .i64 2, .int .i64 1, .int .i64 1, .int .i64 0, .string { data := #[] }] 30)) #[.int .i64 1, .int .i64 1, .int .i64 1, .int .i64 1, .int .i64 1, .int .i64 1, .int .i64 0, .string { data := #[] }] 32).alloc (.cells #[.int .i64 1, .int .i64 1, .int .i64 1, .int .i64 1, .int .i64 1, .int .i64 1, .int .i64 0, .string { data := #[] }, .int .i64 2, .int .i64 1, .int .i64 1, .int .i64 2, .int .i64 1, .int .i64 1, .int .i64 0, .string { data := #[] }] 32)
  have k3 := Blk.new (((w.alloc (.cells #[.int .i64 1, .int .i64 1, .int .i64 1, .int .i64 1, .int .i64 1, .int .i64 0, .string { data := #[] }] 30)).alloc (.cells #[.int .i64 1, .int .i64 1, .int .i64 2, .int .i64 1, .int .i64 1, .int .i64 0, .string { data := #[] }] 30)).alloc (.cells #[.int .i64 1, .int .i64 1, .int .i64 1, .int .i64 1, .int .i64 1, .int .i64 1, .int .i64 0, .string { data := #[] }] 32)) #[.int .i64 1, .int .i64 1, .int .i64 1, .int .i64 1, .int .i64 1, .int .i64 1, .int .i64 0, .string { data := #[] }, .int .i64 2, .int .i64 1, .int .i64 1, .int .i64 2, .int .i64 1, .int .i64 1, .int .i64 0, .string { data := #[] }] 32
  rw [s1] at k1
  rw [s2] at k2
  rw [s3] at k3
  exact ⟨b3, k0, k1, k2, k3⟩
theorem st0_b (w : World) : St0 w ((((w.alloc (.cells #[.int .i64 1, .int .i64 1, .int .i64 1, .int .i64 1, .int .i64 1, .int .i64 0, .string { data := #[] }] 30)).alloc (.cells #[.int .i64 1, .int .i64 1, .int .i64 2, .int .i64 1, .int .i64 1, .int .i64 0, .string { data := #[] }] 30)).alloc (.cells #[.int .i64 1, .int .i64 1, .int .i64 1, .int .i64 1, .int .i64 1, .int .i64 1, .int .i64 0, .string { data := #[] }, .int .i64 2, .int .i64 1, .int .i64 1, .int .i64 2, .int .i64 1, .int .i64 1, .int .i64 0, .string { data := #[] }] 32)).alloc (.cells #[.int .i64 1, .int .i64 1, .int .i64 1, .int .i64 1, .int .i64 1, .int .i64 1, .int .i64 0, .string { data := #[] }] 32)) (w.heap.size + 1 + 1 + 1) (w.heap.size + 1 + 1) := by
  have b0 := (Below.refl w.heap.size w).alloc (Nat.le_refl _) (.cells #[.int .i64 1, .int .i64 1, .int .i64 1, .int .i64 1, .int .i64 1, .int .i64 0, .string { data := #[] }] 30)
  have b1 := b0.alloc (by simp) (.cells #[.int .i64 1, .int .i64 1, .int .i64 2, .int .i64 1, .int .i64 1, .int .i64 0, .string { data := #[] }] 30)
  have b2 := b1.alloc (by simp; omega) (.cells #[.int .i64 1, .int .i64 1, .int .i64 1, .int .i64 1, .int .i64 1, .int .i64 1, .int .i64 0, .string { data := #[] }, .int .i64 2, .int .i64 1, .int .i64 1, .int .i64 2, .int .i64 1, .int .i64 1, .int .i64 0, .string { data := #[] }] 32)
  have b3 := b2.alloc (by simp; omega) (.cells #[.int .i64 1, .int .i64 1, .int .i64 1, .int .i64 1, .int .i64 1, .int .i64 1, .int .i64 0, .string { data := #[] }] 32)
  have s1 : (w.alloc (.cells #[.int .i64 1, .int .i64 1, .int .i64 1, .int .i64 1, .int .i64 1, .int .i64 0, .string { data := #[] }] 30)).heap.size = w.heap.size + 1 := by simp
  have s2 : ((w.alloc (.cells #[.int .i64 1, .int .i64 1, .int .i64 1, .int .i64 1, .int .i64 1, .int .i64 0, .string { data := #[] }] 30)).alloc (.cells #[.int .i64 1, .int .i64 1, .int .i64 2, .int .i64 1, .int .i64 1, .int .i64 0, .string { data := #[] }] 30)).heap.size = w.heap.size + 1 + 1 := by simp
  have s3 : (((w.alloc (.cells #[.int .i64 1, .int .i64 1, .int .i64 1, .int .i64 1, .int .i64 1, .int .i64 0, .string { data := #[] }] 30)).alloc (.cells #[.int .i64 1, .int .i64 1, .int .i64 2, .int .i64 1, .int .i64 1, .int .i64 0, .string { data := #[] }] 30)).alloc (.cells #[.int .i64 1, .int .i64 1, .int .i64 1, .int .i64 1, .int .i64 1, .int .i64 1, .int .i64 0, .string { data := #[] }, .int .i64 2, .int .i64 1, .int .i64 1, .int .i64 2, .int .i64 1, .int .i64 1, .int .i64 0, .string { data := #[] }] 32)).heap.size = w.heap.size + 1 + 1 + 1 := by simp
  have k0 := (((Blk.new w #[.int .i64 1, .int .i64 1, .int .i64 1, .int .i64 1, .int .i64 1, .int .i64 0, .string { data := #[] }] 30).alloc (.cells #[.int .i64 1, .int .i64 1, .int .i64 2, .int .i64 1, .int .i64 1, .int .i64 0, .string { data := #[] }] 30)).alloc (.cells #[.int .i64 1, .int .i64 1, .int .i64 1, .int .i64 1, .int .i64 1, .int .i64 1, .int .i64 0, .string { data := #[] }, .int .i64 2, .int .i64 1, .int .i64 1, .int .i64 2, .int .i64 1, .int .i64 1, .int .i64 0, .string { data := #[] }] 32)).alloc (.cells #[.int .i64 1, .int .i64 1, .int .i64 1, .int .i64 1, .int .i64 1, .int .i64 1, .int .i64 0, .string { data := #[] }] 32)
  have k1 := ((Blk.new (w.alloc (.cells #[.int .i64 1, .int .i64 1, .int .i64 1, .int .i64 1, .int .i64 1, .int .i64 0, .string { data := #[] }] 30)) #[.int .i64 1, .int .i64 1, .int .i64 2, .int .i64 1, .int .i64 1, .int .i64 0, .string { data := #[] }] 30).alloc (.cells #[.int .i64 1, .int .i64 1, .int .i64 1, .int .i64 1, .int .i64 1, .int .i64 1, .int .i64 0, .string { data := #[] }, .int .i64 2, .int .i64 1, .int .i64 1, .int .i64 2, .int .i64 1, .int .i64 1, .int .i64 0, .string { data := #[] }] 32)).alloc (.cells #[.int .i64 1, .int .i64 1, .int .i64 1, .int .i64 1, .int .i64 1, .int .i64 1, .int .i64 0, .string { data := #[] }] 32)
  have k2 := (Blk.new ((w.alloc (.cells #[.int .i64 1, .int .i64 1, .int .i64 1, .int .i64 1, .int .i64 1, .int .i64 0, .string { data := #[] }] 30)).alloc (.cells #[.int .i64 1, .int .i64 1, .int .i64 2, .int .i64 1, .int .i64 1, .int .i64 0, .string { data := #[] }] 30)) #[.int .i64 1, .int .i64 1, .int .i64 1, .int .i64 1, .int .i64 1, .int .i64 1, .int .i64 0, .string { data := #[] }, .int .i64 2, .int .i64 1, .int .i64 1, .int .i64 2, .int .i64 1, .int .i64 1, .int .i64 0, .string { data := #[] }] 32).alloc (.cells #[.int .i64 1, .int .i64 1, .int .i64 1, .int .i64 1, .int .i64 1, .int .i64 1, .int .i64 0, .string { data := #[] }] 32)
  have k3 := Blk.new (((w.alloc (.cells #[.int .i64 1, .int .i64 1, .int .i64 1, .int .i64 1, .int .i64 1, .int .i64 0, .string { data := #[] }] 30)).alloc (.cells #[.int .i64 1, .int .i64 1, .int .i64 2, .int .i64 1, .int .i64 1, .int .i64 0, .string { data := #[] }] 30)).alloc (.cells #[.int .i64 1, .int .i64 1, .int .i64 1, .int .i64 1, .int .i64 1, .int .i64 1, .int .i64 0, .string { data := #[] }, .int .i64 2, .int .i64 1, .int .i64 1, .int .i64 2, .int .i64 1, .int .i64 1, .int .i64 0, .string { data := #[] }] 32)) #[.int .i64 1, .int .i64 1, .int .i64 1, .int .i64 1, .int .i64 1, .int .i64 1, .int .i64 0, .string { data := #[] }] 32
  rw [s1] at k1
  rw [s2] at k2
  rw [s3] at k3
  exact ⟨b3, k0, k1, k3, k2⟩

theorem okE : EntOk eE := ⟨by constructor <;> exact ⟨by decide, by decide⟩, by show (ByteArray.empty).size ≤ maxLen; unfold maxLen; decide⟩
theorem okF : EntOk eF := ⟨by constructor <;> exact ⟨by decide, by decide⟩, by show (ByteArray.empty).size ≤ maxLen; unfold maxLen; decide⟩
theorem okB : ∀ t ∈ ([(1, eE), (2, eF)] : List Tl), EntOk t.2 := by
  intro t ht
  simp only [List.mem_cons, List.not_mem_nil, or_false] at ht
  rcases ht with rfl | rfl
  · exact okE
  · exact okF
theorem okA : ∀ t ∈ ([(1, eE)] : List Tl), EntOk t.2 := by
  intro t ht
  rw [List.mem_singleton.1 ht]
  exact okE
theorem okE1 : ∀ e ∈ [eE], EntOk e := by
  intro e he
  rw [List.mem_singleton.1 he]
  exact okE
theorem okFE : ∀ e ∈ [eF, eE], EntOk e := by
  intro e he
  simp only [List.mem_cons, List.not_mem_nil, or_false] at he
  rcases he with rfl | rfl
  · exact okF
  · exact okE
theorem okAA : ∀ t ∈ ([(1, eE), (1, eE)] : List Tl), EntOk t.2 := by
  intro t ht
  simp only [List.mem_cons, List.not_mem_nil, or_false] at ht
  rcases ht with rfl | rfl <;> exact okE
theorem below_none {w w' : World} (h : w.grownBy w' none) : Below w.heap.size w w' := ⟨h.os, h.tape, h.output, h.size, fun k hk => h.block k hk (by simp)⟩

set_option maxHeartbeats 8000000 in
set_option maxRecDepth 100000 in
theorem begunJ_c (w : World) : Calls Try.prog 7 #[] w fun x w' => x = .returned (.bool true) ∧ Below w.heap.size w w' := by
  have ha := st0_a w
  have hb := st0_b w
  go_enter Try.func7, Try.ntmps7
  go_wp2_with fail
  go_big_region
  · clear hb
    generalize ((((w.alloc (.cells #[.int .i64 1, .int .i64 1, .int .i64 1, .int .i64 1, .int .i64 1, .int .i64 0, .string { data := #[] }] 30)).alloc (.cells #[.int .i64 1, .int .i64 1, .int .i64 2, .int .i64 1, .int .i64 1, .int .i64 0, .string { data := #[] }] 30)).alloc (.cells #[.int .i64 1, .int .i64 1, .int .i64 1, .int .i64 1, .int .i64 1, .int .i64 1, .int .i64 0, .string { data := #[] }] 32)).alloc (.cells #[.int .i64 1, .int .i64 1, .int .i64 1, .int .i64 1, .int .i64 1, .int .i64 1, .int .i64 0, .string { data := #[] }, .int .i64 2, .int .i64 1, .int .i64 1, .int .i64 2, .int .i64 1, .int .i64 1, .int .i64 0, .string { data := #[] }] 32)) = W at *
    obtain ⟨BL, KE, KF, KA, KB⟩ := ha
    have RA := Lib.hid (Rd.ofBlk (k := 8) (n := 1) KA rfl (by unfold maxLen; omega))
    have RB := Lib.hid (Rd.ofBlk (k := 8) (n := 2) KB rfl (by unfold maxLen; omega))
    have KE := Lib.hid KE
    have KF := Lib.hid KF
    have OA := Lib.hid (Ow.ofBlk (k := 8) (n := 1) KA rfl (by unfold maxLen; omega) (show w.heap.size ≤ w.heap.size + 1 + 1 by omega))
    have BL := Lib.hid BL
    clear KA KB
    go_wp2_with fail
    refine (jFirm_c W.drew _ _ 2 2 [(1, eE), (2, eF)] RB.out (by omega)).mono ?_
    rw [show firm [(1, eE), (2, eF)] = [eE, eF] from by kernel_rfl]
    rintro x w1 ⟨A1, c1, rfl, -, b1⟩
    have RA1 := Lib.hid (RA.out.drew.past b1).tight
    have RB1 := Lib.hid (RB.out.drew.past b1).tight
    have KE1 := Lib.hid (KE.out.drew.past b1)
    have KF1 := Lib.hid (KF.out.drew.past b1)
    have OA1 := Lib.hid ((OA.out.drew).past b1)
    have BL1 := Lib.hid (BL.out.drew.trans (b1.mono BL.out.size))
    clear RA RB KE KF OA BL b1
    go_wp2_with fail
    refine (jPrefix_c w1 _ _ _ _ 1 2 1 2 [(1, eE)] [(1, eE), (2, eF)] RA1.out RB1.out (by omega) (by omega)).mono ?_
    rw [show pfx [(1, eE)] [(1, eE), (2, eF)] = true from by kernel_rfl]
    rintro x w2 ⟨rfl, b2⟩
    have RA2 := Lib.hid (RA1.out.past b2).tight
    have RB2 := Lib.hid (RB1.out.past b2).tight
    have KE2 := Lib.hid (KE1.out.past b2)
    have KF2 := Lib.hid (KF1.out.past b2)
    have OA2 := Lib.hid (OA1.out.past b2)
    have BL2 := Lib.hid (BL1.out.trans (b2.mono BL1.out.size))
    clear RA1 RB1 KE1 KF1 OA1 BL1 b2
    go_wp2_with fail
    refine (jPrefix_c w2 _ _ _ _ 2 1 2 1 [(1, eE), (2, eF)] [(1, eE)] RB2.out RA2.out (by omega) (by omega)).mono ?_
    rw [show pfx [(1, eE), (2, eF)] [(1, eE)] = true from by kernel_rfl]
    rintro x w3 ⟨rfl, b3⟩
    have RA3 := Lib.hid (RA2.out.past b3).tight
    have RB3 := Lib.hid (RB2.out.past b3).tight
    have KE3 := Lib.hid (KE2.out.past b3)
    have KF3 := Lib.hid (KF2.out.past b3)
    have OA3 := Lib.hid (OA2.out.past b3)
    have BL3 := Lib.hid (BL2.out.trans (b3.mono BL2.out.size))
    clear RA2 RB2 KE2 KF2 OA2 BL2 b3
    go_wp2_with ((with_reducible show wpList _ _ _ ((⟨some 33, Op.slice _ _ _ _ _, _, _, _, _⟩ : Oper) :: _) _ _); go_must (refine wpList_unguard rfl ?_; refine wpList_cutI rfl 22 (.tmp 32) _ _ rfl 32 _ 8 72 Try.underlying22 told_info _ _ 2 2 (tls [(1, eE), (2, eF)]) rfl RB3.out 1 2 1 0 (.inr ⟨rfl, rfl⟩) (.inl ⟨rfl, rfl⟩) (by omega) (by omega) ?_))
    intro A4 c4 hr4
    have R4 := Lib.hid (show Rd w3 w3.heap.size A4 c4 8 1 (tls [(2, eF)]) from hr4)
    clear hr4
    go_wp2_with fail
    refine (jPrefix_c w3 _ _ _ _ 1 c4 1 1 [(1, eE)] [(2, eF)] RA3.out R4.out (by omega) (by omega)).mono ?_
    rw [show pfx [(1, eE)] [(2, eF)] = false from by kernel_rfl]
    rintro x w4 ⟨rfl, b4⟩
    clear R4
    have RA4 := Lib.hid (RA3.out.past b4).tight
    have RB4 := Lib.hid (RB3.out.past b4).tight
    have KE4 := Lib.hid (KE3.out.past b4)
    have KF4 := Lib.hid (KF3.out.past b4)
    have OA4 := Lib.hid (OA3.out.past b4)
    have BL4 := Lib.hid (BL3.out.trans (b4.mono BL3.out.size))
    clear RA3 RB3 KE3 KF3 OA3 BL3 b4
    go_wp2_with fail
    refine (jOnce_c w4 _ _ 2 2 [(1, eE), (2, eF)] RB4.out (by omega) okB).mono ?_
    rw [show once (([(1, eE), (2, eF)] : List Tl).map (·.2)) = true from by kernel_rfl]
    rintro x w5 ⟨rfl, b5⟩
    have RA5 := Lib.hid (RA4.out.past b5).tight
    have RB5 := Lib.hid (RB4.out.past b5).tight
    have KE5 := Lib.hid (KE4.out.past b5)
    have KF5 := Lib.hid (KF4.out.past b5)
    have OA5 := Lib.hid (OA4.out.past b5)
    have BL5 := Lib.hid (BL4.out.trans (b5.mono BL4.out.size))
    clear RA4 RB4 KE4 KF4 OA4 BL4 b5
    go_wp2_with ((with_reducible show wpList _ _ _ ((⟨some 44, Op.call _, _, _, _, _⟩ : Oper) :: _) _ _); go_must (refine wpList_unguard rfl ?_; refine wpList_appG rfl (.tmp 42) (.tmp 43) _ rfl w.heap.size 32 _ 8 72 Try.underlying22 told_info rfl (by omega) _ 1 1 (tls [(1, eE)]) rfl OA5.out _ _ 1 1 (tls [(1, eE)]) rfl RA5.out (tls_one _) ?d1 ?d2 BL5.out.size (by omega) ?_))
    case d1 => unfold maxLen; omega
    case d2 => omega
    intro A6 c6 w6 hO6 hg6
    have R6 := Lib.hid (show Rd w6 w6.heap.size A6 c6 8 2 (tls [(1, eE), (1, eE)]) from hO6.rd)
    have b6 := below_none hg6
    clear hO6 hg6
    have RA6 := Lib.hid (RA5.out.past b6).tight
    have RB6 := Lib.hid (RB5.out.past b6).tight
    have KE6 := Lib.hid (KE5.out.past b6)
    have KF6 := Lib.hid (KF5.out.past b6)
    have OA6 := Lib.hid (OA5.out.past b6)
    have BL6 := Lib.hid (BL5.out.trans (b6.mono BL5.out.size))
    clear RA5 RB5 KE5 KF5 OA5 BL5 b6
    go_wp2_with fail
    refine (jOnce_c w6 _ _ c6 2 [(1, eE), (1, eE)] R6.out (by omega) okAA).mono ?_
    rw [show once (([(1, eE), (1, eE)] : List Tl).map (·.2)) = false from by kernel_rfl]
    rintro x w7 ⟨rfl, b7⟩
    clear R6
    have RA7 := Lib.hid (RA6.out.past b7).tight
    have RB7 := Lib.hid (RB6.out.past b7).tight
    have KE7 := Lib.hid (KE6.out.past b7)
    have KF7 := Lib.hid (KF6.out.past b7)
    have OA7 := Lib.hid (OA6.out.past b7)
    have BL7 := Lib.hid (BL6.out.trans (b7.mono BL6.out.size))
    clear RA6 RB6 KE6 KF6 OA6 BL6 b7
    obtain ⟨e0, e1, e2, e3, e4, e5, e6⟩ := Blk.ent (e := eE) KE7.out
    obtain ⟨f0, f1, f2, f3, f4, f5, f6⟩ := Blk.ent (e := eF) KF7.out
    simp only [eE, eF] at e0 e1 e2 e3 e4 e5 e6 f0 f1 f2 f3 f4 f5 f6
    go_wp2_with fail
    have ba := (Below.refl w7.heap.size w7).alloc (Nat.le_refl _) (.cells #[.int .i64 1, .int .i64 1, .int .i64 2, .int .i64 1, .int .i64 1, .int .i64 0, .string ByteArray.empty, .int .i64 1, .int .i64 1, .int .i64 1, .int .i64 1, .int .i64 1, .int .i64 0, .string ByteArray.empty] 30)
    have N8 := Lib.hid (show Rd (w7.alloc (.cells #[.int .i64 1, .int .i64 1, .int .i64 2, .int .i64 1, .int .i64 1, .int .i64 0, .string ByteArray.empty, .int .i64 1, .int .i64 1, .int .i64 1, .int .i64 1, .int .i64 1, .int .i64 0, .string ByteArray.empty] 30)) (w7.alloc (.cells #[.int .i64 1, .int .i64 1, .int .i64 2, .int .i64 1, .int .i64 1, .int .i64 0, .string ByteArray.empty, .int .i64 1, .int .i64 1, .int .i64 1, .int .i64 1, .int .i64 1, .int .i64 0, .string ByteArray.empty] 30)).heap.size (some ⟨w7.heap.size, 0, none⟩) 2 7 2 (els [eF, eE]) from (Rd.new w7 #[.int .i64 1, .int .i64 1, .int .i64 2, .int .i64 1, .int .i64 1, .int .i64 0, .string ByteArray.empty, .int .i64 1, .int .i64 1, .int .i64 1, .int .i64 1, .int .i64 1, .int .i64 0, .string ByteArray.empty] 30 7 2 rfl (by unfold maxLen; omega)).tight)
    clear e0 e1 e2 e3 e4 e5 e6 f0 f1 f2 f3 f4 f5 f6
    have RA8 := Lib.hid (RA7.out.past ba).tight
    have RB8 := Lib.hid (RB7.out.past ba).tight
    have KE8 := Lib.hid (KE7.out.past ba)
    have KF8 := Lib.hid (KF7.out.past ba)
    have BL8 := Lib.hid (BL7.out.trans (ba.mono BL7.out.size))
    clear RA7 RB7 KE7 KF7 BL7 ba
    generalize hw8 : w7.alloc (.cells #[.int .i64 1, .int .i64 1, .int .i64 2, .int .i64 1, .int .i64 1, .int .i64 0, .string ByteArray.empty, .int .i64 1, .int .i64 1, .int .i64 1, .int .i64 1, .int .i64 1, .int .i64 0, .string ByteArray.empty] 30) = w8 at *
    clear hw8
    refine (jCast_c w8 _ _ _ _ 1 2 1 2 [(1, eE)] [eF, eE] RA8.out N8.out (by omega) (by omega) okA okFE).mono ?_
    rw [show cast (([(1, eE)] : List Tl).map (·.2)) [eF, eE] = true from by kernel_rfl]
    rintro x w9 ⟨rfl, b9⟩
    clear N8
    have RA9 := Lib.hid (RA8.out.past b9).tight
    have RB9 := Lib.hid (RB8.out.past b9).tight
    have KE9 := Lib.hid (KE8.out.past b9)
    have KF9 := Lib.hid (KF8.out.past b9)
    have BL9 := Lib.hid (BL8.out.trans (b9.mono BL8.out.size))
    clear RA8 RB8 KE8 KF8 BL8 b9
    obtain ⟨e0, e1, e2, e3, e4, e5, e6⟩ := Blk.ent (e := eE) KE9.out
    obtain ⟨f0, f1, f2, f3, f4, f5, f6⟩ := Blk.ent (e := eF) KF9.out
    simp only [eE, eF] at e0 e1 e2 e3 e4 e5 e6 f0 f1 f2 f3 f4 f5 f6
    go_wp2_with fail
    have ba := (Below.refl w9.heap.size w9).alloc (Nat.le_refl _) (.cells #[.int .i64 1, .int .i64 1, .int .i64 1, .int .i64 1, .int .i64 1, .int .i64 0, .string ByteArray.empty] 30)
    have N10 := Lib.hid (show Rd (w9.alloc (.cells #[.int .i64 1, .int .i64 1, .int .i64 1, .int .i64 1, .int .i64 1, .int .i64 0, .string ByteArray.empty] 30)) (w9.alloc (.cells #[.int .i64 1, .int .i64 1, .int .i64 1, .int .i64 1, .int .i64 1, .int .i64 0, .string ByteArray.empty] 30)).heap.size (some ⟨w9.heap.size, 0, none⟩) 1 7 1 (els [eE]) from (Rd.new w9 #[.int .i64 1, .int .i64 1, .int .i64 1, .int .i64 1, .int .i64 1, .int .i64 0, .string ByteArray.empty] 30 7 1 rfl (by unfold maxLen; omega)).tight)
    clear e0 e1 e2 e3 e4 e5 e6 f0 f1 f2 f3 f4 f5 f6
    have RA10 := Lib.hid (RA9.out.past ba).tight
    have RB10 := Lib.hid (RB9.out.past ba).tight
    have KE10 := Lib.hid (KE9.out.past ba)
    have KF10 := Lib.hid (KF9.out.past ba)
    have BL10 := Lib.hid (BL9.out.trans (ba.mono BL9.out.size))
    clear RA9 RB9 KE9 KF9 BL9 ba
    generalize hw10 : w9.alloc (.cells #[.int .i64 1, .int .i64 1, .int .i64 1, .int .i64 1, .int .i64 1, .int .i64 0, .string ByteArray.empty] 30) = w10 at *
    clear hw10
    refine (jCast_c w10 _ _ _ _ 2 1 2 1 [(1, eE), (2, eF)] [eE] RB10.out N10.out (by omega) (by omega) okB okE1).mono ?_
    rw [show cast (([(1, eE), (2, eF)] : List Tl).map (·.2)) [eE] = false from by kernel_rfl]
    rintro x w11 ⟨rfl, b11⟩
    clear N10
    have RA11 := Lib.hid (RA10.out.past b11).tight
    have RB11 := Lib.hid (RB10.out.past b11).tight
    have KE11 := Lib.hid (KE10.out.past b11)
    have KF11 := Lib.hid (KF10.out.past b11)
    have BL11 := Lib.hid (BL10.out.trans (b11.mono BL10.out.size))
    clear RA10 RB10 KE10 KF10 BL10 b11
    obtain ⟨e0, e1, e2, e3, e4, e5, e6⟩ := Blk.ent (e := eE) KE11.out
    obtain ⟨f0, f1, f2, f3, f4, f5, f6⟩ := Blk.ent (e := eF) (KF11.out.alloc (.cells #[.int .i64 1, .int .i64 1, .int .i64 1, .int .i64 1, .int .i64 1, .int .i64 0, .string ByteArray.empty] 30))
    simp only [eE, eF] at e0 e1 e2 e3 e4 e5 e6 f0 f1 f2 f3 f4 f5 f6
    go_wp2_with fail
    have ba := (Below.refl w11.heap.size w11).alloc (Nat.le_refl _) (.cells #[.int .i64 1, .int .i64 1, .int .i64 1, .int .i64 1, .int .i64 1, .int .i64 0, .string ByteArray.empty] 30)
    have N0 := (Rd.new w11 #[.int .i64 1, .int .i64 1, .int .i64 1, .int .i64 1, .int .i64 1, .int .i64 0, .string ByteArray.empty] 30 7 1 rfl (by unfold maxLen; omega)).tight
    have bb := (Below.refl (w11.alloc (.cells #[.int .i64 1, .int .i64 1, .int .i64 1, .int .i64 1, .int .i64 1, .int .i64 0, .string ByteArray.empty] 30)).heap.size (w11.alloc (.cells #[.int .i64 1, .int .i64 1, .int .i64 1, .int .i64 1, .int .i64 1, .int .i64 0, .string ByteArray.empty] 30))).alloc (Nat.le_refl _) (.cells #[.int .i64 1, .int .i64 1, .int .i64 2, .int .i64 1, .int .i64 1, .int .i64 0, .string ByteArray.empty] 30)
    have N1 := Lib.hid (show Rd ((w11.alloc (.cells #[.int .i64 1, .int .i64 1, .int .i64 1, .int .i64 1, .int .i64 1, .int .i64 0, .string ByteArray.empty] 30)).alloc (.cells #[.int .i64 1, .int .i64 1, .int .i64 2, .int .i64 1, .int .i64 1, .int .i64 0, .string ByteArray.empty] 30)) _ (some ⟨w11.heap.size, 0, none⟩) 1 7 1 (els [eE]) from (N0.past bb).tight)
    have hs : (w11.alloc (.cells #[.int .i64 1, .int .i64 1, .int .i64 1, .int .i64 1, .int .i64 1, .int .i64 0, .string ByteArray.empty] 30)).heap.size = w11.heap.size + 1 := by simp
    have n2 := (Rd.new (w11.alloc (.cells #[.int .i64 1, .int .i64 1, .int .i64 1, .int .i64 1, .int .i64 1, .int .i64 0, .string ByteArray.empty] 30)) #[.int .i64 1, .int .i64 1, .int .i64 2, .int .i64 1, .int .i64 1, .int .i64 0, .string ByteArray.empty] 30 7 1 rfl (by unfold maxLen; omega)).tight
    rw [hs] at n2
    have N2 := Lib.hid (show Rd ((w11.alloc (.cells #[.int .i64 1, .int .i64 1, .int .i64 1, .int .i64 1, .int .i64 1, .int .i64 0, .string ByteArray.empty] 30)).alloc (.cells #[.int .i64 1, .int .i64 1, .int .i64 2, .int .i64 1, .int .i64 1, .int .i64 0, .string ByteArray.empty] 30)) _ (some ⟨w11.heap.size + 1, 0, none⟩) 1 7 1 (els [eF]) from n2)
    have b0 := ba.trans (bb.mono ba.size)
    clear ba bb N0 n2 hs
    clear e0 e1 e2 e3 e4 e5 e6 f0 f1 f2 f3 f4 f5 f6
    have RA12 := Lib.hid (RA11.out.past b0).tight
    have RB12 := Lib.hid (RB11.out.past b0).tight
    have KE12 := Lib.hid (KE11.out.past b0)
    have KF12 := Lib.hid (KF11.out.past b0)
    have BL12 := Lib.hid (BL11.out.trans (b0.mono BL11.out.size))
    clear RA11 RB11 KE11 KF11 BL11 b0
    generalize hw12 : (w11.alloc (.cells #[.int .i64 1, .int .i64 1, .int .i64 1, .int .i64 1, .int .i64 1, .int .i64 0, .string ByteArray.empty] 30)).alloc (.cells #[.int .i64 1, .int .i64 1, .int .i64 2, .int .i64 1, .int .i64 1, .int .i64 0, .string ByteArray.empty] 30) = w12 at *
    clear hw12
    refine (jAgree_c w12 _ _ _ _ 1 1 1 1 [eE] [eF] N1.out N2.out 1 0 (by omega) (by omega)).mono ?_
    rw [show agree [eE] 1 [eF] 0 = true from by kernel_rfl]
    rintro x w13 ⟨rfl, b13⟩
    clear N1 N2
    have RA13 := Lib.hid (RA12.out.past b13).tight
    have RB13 := Lib.hid (RB12.out.past b13).tight
    have KE13 := Lib.hid (KE12.out.past b13)
    have KF13 := Lib.hid (KF12.out.past b13)
    have BL13 := Lib.hid (BL12.out.trans (b13.mono BL12.out.size))
    clear RA12 RB12 KE12 KF12 BL12 b13
    obtain ⟨e0, e1, e2, e3, e4, e5, e6⟩ := Blk.ent (e := eE) KE13.out
    obtain ⟨f0, f1, f2, f3, f4, f5, f6⟩ := Blk.ent (e := eF) (KF13.out.alloc (.cells #[.int .i64 1, .int .i64 1, .int .i64 1, .int .i64 1, .int .i64 1, .int .i64 0, .string ByteArray.empty] 30))
    simp only [eE, eF] at e0 e1 e2 e3 e4 e5 e6 f0 f1 f2 f3 f4 f5 f6
    go_wp2_with fail
    have ba := (Below.refl w13.heap.size w13).alloc (Nat.le_refl _) (.cells #[.int .i64 1, .int .i64 1, .int .i64 1, .int .i64 1, .int .i64 1, .int .i64 0, .string ByteArray.empty] 30)
    have N0 := (Rd.new w13 #[.int .i64 1, .int .i64 1, .int .i64 1, .int .i64 1, .int .i64 1, .int .i64 0, .string ByteArray.empty] 30 7 1 rfl (by unfold maxLen; omega)).tight
    have bb := (Below.refl (w13.alloc (.cells #[.int .i64 1, .int .i64 1, .int .i64 1, .int .i64 1, .int .i64 1, .int .i64 0, .string ByteArray.empty] 30)).heap.size (w13.alloc (.cells #[.int .i64 1, .int .i64 1, .int .i64 1, .int .i64 1, .int .i64 1, .int .i64 0, .string ByteArray.empty] 30))).alloc (Nat.le_refl _) (.cells #[.int .i64 1, .int .i64 1, .int .i64 2, .int .i64 1, .int .i64 1, .int .i64 0, .string ByteArray.empty] 30)
    have N1 := Lib.hid (show Rd ((w13.alloc (.cells #[.int .i64 1, .int .i64 1, .int .i64 1, .int .i64 1, .int .i64 1, .int .i64 0, .string ByteArray.empty] 30)).alloc (.cells #[.int .i64 1, .int .i64 1, .int .i64 2, .int .i64 1, .int .i64 1, .int .i64 0, .string ByteArray.empty] 30)) _ (some ⟨w13.heap.size, 0, none⟩) 1 7 1 (els [eE]) from (N0.past bb).tight)
    have hs : (w13.alloc (.cells #[.int .i64 1, .int .i64 1, .int .i64 1, .int .i64 1, .int .i64 1, .int .i64 0, .string ByteArray.empty] 30)).heap.size = w13.heap.size + 1 := by simp
    have n2 := (Rd.new (w13.alloc (.cells #[.int .i64 1, .int .i64 1, .int .i64 1, .int .i64 1, .int .i64 1, .int .i64 0, .string ByteArray.empty] 30)) #[.int .i64 1, .int .i64 1, .int .i64 2, .int .i64 1, .int .i64 1, .int .i64 0, .string ByteArray.empty] 30 7 1 rfl (by unfold maxLen; omega)).tight
    rw [hs] at n2
    have N2 := Lib.hid (show Rd ((w13.alloc (.cells #[.int .i64 1, .int .i64 1, .int .i64 1, .int .i64 1, .int .i64 1, .int .i64 0, .string ByteArray.empty] 30)).alloc (.cells #[.int .i64 1, .int .i64 1, .int .i64 2, .int .i64 1, .int .i64 1, .int .i64 0, .string ByteArray.empty] 30)) _ (some ⟨w13.heap.size + 1, 0, none⟩) 1 7 1 (els [eF]) from n2)
    have b0 := ba.trans (bb.mono ba.size)
    clear ba bb N0 n2 hs
    clear e0 e1 e2 e3 e4 e5 e6 f0 f1 f2 f3 f4 f5 f6
    have RA14 := Lib.hid (RA13.out.past b0).tight
    have RB14 := Lib.hid (RB13.out.past b0).tight
    have KE14 := Lib.hid (KE13.out.past b0)
    have KF14 := Lib.hid (KF13.out.past b0)
    have BL14 := Lib.hid (BL13.out.trans (b0.mono BL13.out.size))
    clear RA13 RB13 KE13 KF13 BL13 b0
    generalize hw14 : (w13.alloc (.cells #[.int .i64 1, .int .i64 1, .int .i64 1, .int .i64 1, .int .i64 1, .int .i64 0, .string ByteArray.empty] 30)).alloc (.cells #[.int .i64 1, .int .i64 1, .int .i64 2, .int .i64 1, .int .i64 1, .int .i64 0, .string ByteArray.empty] 30) = w14 at *
    clear hw14
    refine (jAgree_c w14 _ _ _ _ 1 1 1 1 [eE] [eF] N1.out N2.out 1 5 (by omega) (by omega)).mono ?_
    rw [show agree [eE] 1 [eF] 5 = false from by kernel_rfl]
    rintro x w15 ⟨rfl, b15⟩
    clear N1 N2
    have RA15 := Lib.hid (RA14.out.past b15).tight
    have RB15 := Lib.hid (RB14.out.past b15).tight
    have KE15 := Lib.hid (KE14.out.past b15)
    have KF15 := Lib.hid (KF14.out.past b15)
    have BL15 := Lib.hid (BL14.out.trans (b15.mono BL14.out.size))
    clear RA14 RB14 KE14 KF14 BL14 b15
    go_wp2_with fail
    go_ret
    exact ⟨rfl, BL15.out⟩
  · clear ha
    generalize ((((w.alloc (.cells #[.int .i64 1, .int .i64 1, .int .i64 1, .int .i64 1, .int .i64 1, .int .i64 0, .string { data := #[] }] 30)).alloc (.cells #[.int .i64 1, .int .i64 1, .int .i64 2, .int .i64 1, .int .i64 1, .int .i64 0, .string { data := #[] }] 30)).alloc (.cells #[.int .i64 1, .int .i64 1, .int .i64 1, .int .i64 1, .int .i64 1, .int .i64 1, .int .i64 0, .string { data := #[] }, .int .i64 2, .int .i64 1, .int .i64 1, .int .i64 2, .int .i64 1, .int .i64 1, .int .i64 0, .string { data := #[] }] 32)).alloc (.cells #[.int .i64 1, .int .i64 1, .int .i64 1, .int .i64 1, .int .i64 1, .int .i64 1, .int .i64 0, .string { data := #[] }] 32)) = W at *
    obtain ⟨BL, KE, KF, KA, KB⟩ := hb
    have RA := Lib.hid (Rd.ofBlk (k := 8) (n := 1) KA rfl (by unfold maxLen; omega))
    have RB := Lib.hid (Rd.ofBlk (k := 8) (n := 2) KB rfl (by unfold maxLen; omega))
    have KE := Lib.hid KE
    have KF := Lib.hid KF
    have OA := Lib.hid (Ow.ofBlk (k := 8) (n := 1) KA rfl (by unfold maxLen; omega) (show w.heap.size ≤ w.heap.size + 1 + 1 + 1 by omega))
    have BL := Lib.hid BL
    clear KA KB
    go_wp2_with fail
    refine (jFirm_c W.drew _ _ 2 2 [(1, eE), (2, eF)] RB.out (by omega)).mono ?_
    rw [show firm [(1, eE), (2, eF)] = [eE, eF] from by kernel_rfl]
    rintro x w1 ⟨A1, c1, rfl, -, b1⟩
    have RA1 := Lib.hid (RA.out.drew.past b1).tight
    have RB1 := Lib.hid (RB.out.drew.past b1).tight
    have KE1 := Lib.hid (KE.out.drew.past b1)
    have KF1 := Lib.hid (KF.out.drew.past b1)
    have OA1 := Lib.hid ((OA.out.drew).past b1)
    have BL1 := Lib.hid (BL.out.drew.trans (b1.mono BL.out.size))
    clear RA RB KE KF OA BL b1
    go_wp2_with fail
    refine (jPrefix_c w1 _ _ _ _ 1 2 1 2 [(1, eE)] [(1, eE), (2, eF)] RA1.out RB1.out (by omega) (by omega)).mono ?_
    rw [show pfx [(1, eE)] [(1, eE), (2, eF)] = true from by kernel_rfl]
    rintro x w2 ⟨rfl, b2⟩
    have RA2 := Lib.hid (RA1.out.past b2).tight
    have RB2 := Lib.hid (RB1.out.past b2).tight
    have KE2 := Lib.hid (KE1.out.past b2)
    have KF2 := Lib.hid (KF1.out.past b2)
    have OA2 := Lib.hid (OA1.out.past b2)
    have BL2 := Lib.hid (BL1.out.trans (b2.mono BL1.out.size))
    clear RA1 RB1 KE1 KF1 OA1 BL1 b2
    go_wp2_with fail
    refine (jPrefix_c w2 _ _ _ _ 2 1 2 1 [(1, eE), (2, eF)] [(1, eE)] RB2.out RA2.out (by omega) (by omega)).mono ?_
    rw [show pfx [(1, eE), (2, eF)] [(1, eE)] = true from by kernel_rfl]
    rintro x w3 ⟨rfl, b3⟩
    have RA3 := Lib.hid (RA2.out.past b3).tight
    have RB3 := Lib.hid (RB2.out.past b3).tight
    have KE3 := Lib.hid (KE2.out.past b3)
    have KF3 := Lib.hid (KF2.out.past b3)
    have OA3 := Lib.hid (OA2.out.past b3)
    have BL3 := Lib.hid (BL2.out.trans (b3.mono BL2.out.size))
    clear RA2 RB2 KE2 KF2 OA2 BL2 b3
    go_wp2_with ((with_reducible show wpList _ _ _ ((⟨some 33, Op.slice _ _ _ _ _, _, _, _, _⟩ : Oper) :: _) _ _); go_must (refine wpList_unguard rfl ?_; refine wpList_cutI rfl 22 (.tmp 32) _ _ rfl 32 _ 8 72 Try.underlying22 told_info _ _ 2 2 (tls [(1, eE), (2, eF)]) rfl RB3.out 1 2 1 0 (.inr ⟨rfl, rfl⟩) (.inl ⟨rfl, rfl⟩) (by omega) (by omega) ?_))
    intro A4 c4 hr4
    have R4 := Lib.hid (show Rd w3 w3.heap.size A4 c4 8 1 (tls [(2, eF)]) from hr4)
    clear hr4
    go_wp2_with fail
    refine (jPrefix_c w3 _ _ _ _ 1 c4 1 1 [(1, eE)] [(2, eF)] RA3.out R4.out (by omega) (by omega)).mono ?_
    rw [show pfx [(1, eE)] [(2, eF)] = false from by kernel_rfl]
    rintro x w4 ⟨rfl, b4⟩
    clear R4
    have RA4 := Lib.hid (RA3.out.past b4).tight
    have RB4 := Lib.hid (RB3.out.past b4).tight
    have KE4 := Lib.hid (KE3.out.past b4)
    have KF4 := Lib.hid (KF3.out.past b4)
    have OA4 := Lib.hid (OA3.out.past b4)
    have BL4 := Lib.hid (BL3.out.trans (b4.mono BL3.out.size))
    clear RA3 RB3 KE3 KF3 OA3 BL3 b4
    go_wp2_with fail
    refine (jOnce_c w4 _ _ 2 2 [(1, eE), (2, eF)] RB4.out (by omega) okB).mono ?_
    rw [show once (([(1, eE), (2, eF)] : List Tl).map (·.2)) = true from by kernel_rfl]
    rintro x w5 ⟨rfl, b5⟩
    have RA5 := Lib.hid (RA4.out.past b5).tight
    have RB5 := Lib.hid (RB4.out.past b5).tight
    have KE5 := Lib.hid (KE4.out.past b5)
    have KF5 := Lib.hid (KF4.out.past b5)
    have OA5 := Lib.hid (OA4.out.past b5)
    have BL5 := Lib.hid (BL4.out.trans (b5.mono BL4.out.size))
    clear RA4 RB4 KE4 KF4 OA4 BL4 b5
    go_wp2_with ((with_reducible show wpList _ _ _ ((⟨some 44, Op.call _, _, _, _, _⟩ : Oper) :: _) _ _); go_must (refine wpList_unguard rfl ?_; refine wpList_appG rfl (.tmp 42) (.tmp 43) _ rfl w.heap.size 32 _ 8 72 Try.underlying22 told_info rfl (by omega) _ 1 1 (tls [(1, eE)]) rfl OA5.out _ _ 1 1 (tls [(1, eE)]) rfl RA5.out (tls_one _) ?d1 ?d2 BL5.out.size (by omega) ?_))
    case d1 => unfold maxLen; omega
    case d2 => omega
    intro A6 c6 w6 hO6 hg6
    have R6 := Lib.hid (show Rd w6 w6.heap.size A6 c6 8 2 (tls [(1, eE), (1, eE)]) from hO6.rd)
    have b6 := below_none hg6
    clear hO6 hg6
    have RA6 := Lib.hid (RA5.out.past b6).tight
    have RB6 := Lib.hid (RB5.out.past b6).tight
    have KE6 := Lib.hid (KE5.out.past b6)
    have KF6 := Lib.hid (KF5.out.past b6)
    have OA6 := Lib.hid (OA5.out.past b6)
    have BL6 := Lib.hid (BL5.out.trans (b6.mono BL5.out.size))
    clear RA5 RB5 KE5 KF5 OA5 BL5 b6
    go_wp2_with fail
    refine (jOnce_c w6 _ _ c6 2 [(1, eE), (1, eE)] R6.out (by omega) okAA).mono ?_
    rw [show once (([(1, eE), (1, eE)] : List Tl).map (·.2)) = false from by kernel_rfl]
    rintro x w7 ⟨rfl, b7⟩
    clear R6
    have RA7 := Lib.hid (RA6.out.past b7).tight
    have RB7 := Lib.hid (RB6.out.past b7).tight
    have KE7 := Lib.hid (KE6.out.past b7)
    have KF7 := Lib.hid (KF6.out.past b7)
    have OA7 := Lib.hid (OA6.out.past b7)
    have BL7 := Lib.hid (BL6.out.trans (b7.mono BL6.out.size))
    clear RA6 RB6 KE6 KF6 OA6 BL6 b7
    obtain ⟨e0, e1, e2, e3, e4, e5, e6⟩ := Blk.ent (e := eE) KE7.out
    obtain ⟨f0, f1, f2, f3, f4, f5, f6⟩ := Blk.ent (e := eF) KF7.out
    simp only [eE, eF] at e0 e1 e2 e3 e4 e5 e6 f0 f1 f2 f3 f4 f5 f6
    go_wp2_with fail
    have ba := (Below.refl w7.heap.size w7).alloc (Nat.le_refl _) (.cells #[.int .i64 1, .int .i64 1, .int .i64 2, .int .i64 1, .int .i64 1, .int .i64 0, .string ByteArray.empty, .int .i64 1, .int .i64 1, .int .i64 1, .int .i64 1, .int .i64 1, .int .i64 0, .string ByteArray.empty] 30)
    have N8 := Lib.hid (show Rd (w7.alloc (.cells #[.int .i64 1, .int .i64 1, .int .i64 2, .int .i64 1, .int .i64 1, .int .i64 0, .string ByteArray.empty, .int .i64 1, .int .i64 1, .int .i64 1, .int .i64 1, .int .i64 1, .int .i64 0, .string ByteArray.empty] 30)) (w7.alloc (.cells #[.int .i64 1, .int .i64 1, .int .i64 2, .int .i64 1, .int .i64 1, .int .i64 0, .string ByteArray.empty, .int .i64 1, .int .i64 1, .int .i64 1, .int .i64 1, .int .i64 1, .int .i64 0, .string ByteArray.empty] 30)).heap.size (some ⟨w7.heap.size, 0, none⟩) 2 7 2 (els [eF, eE]) from (Rd.new w7 #[.int .i64 1, .int .i64 1, .int .i64 2, .int .i64 1, .int .i64 1, .int .i64 0, .string ByteArray.empty, .int .i64 1, .int .i64 1, .int .i64 1, .int .i64 1, .int .i64 1, .int .i64 0, .string ByteArray.empty] 30 7 2 rfl (by unfold maxLen; omega)).tight)
    clear e0 e1 e2 e3 e4 e5 e6 f0 f1 f2 f3 f4 f5 f6
    have RA8 := Lib.hid (RA7.out.past ba).tight
    have RB8 := Lib.hid (RB7.out.past ba).tight
    have KE8 := Lib.hid (KE7.out.past ba)
    have KF8 := Lib.hid (KF7.out.past ba)
    have BL8 := Lib.hid (BL7.out.trans (ba.mono BL7.out.size))
    clear RA7 RB7 KE7 KF7 BL7 ba
    generalize hw8 : w7.alloc (.cells #[.int .i64 1, .int .i64 1, .int .i64 2, .int .i64 1, .int .i64 1, .int .i64 0, .string ByteArray.empty, .int .i64 1, .int .i64 1, .int .i64 1, .int .i64 1, .int .i64 1, .int .i64 0, .string ByteArray.empty] 30) = w8 at *
    clear hw8
    refine (jCast_c w8 _ _ _ _ 1 2 1 2 [(1, eE)] [eF, eE] RA8.out N8.out (by omega) (by omega) okA okFE).mono ?_
    rw [show cast (([(1, eE)] : List Tl).map (·.2)) [eF, eE] = true from by kernel_rfl]
    rintro x w9 ⟨rfl, b9⟩
    clear N8
    have RA9 := Lib.hid (RA8.out.past b9).tight
    have RB9 := Lib.hid (RB8.out.past b9).tight
    have KE9 := Lib.hid (KE8.out.past b9)
    have KF9 := Lib.hid (KF8.out.past b9)
    have BL9 := Lib.hid (BL8.out.trans (b9.mono BL8.out.size))
    clear RA8 RB8 KE8 KF8 BL8 b9
    obtain ⟨e0, e1, e2, e3, e4, e5, e6⟩ := Blk.ent (e := eE) KE9.out
    obtain ⟨f0, f1, f2, f3, f4, f5, f6⟩ := Blk.ent (e := eF) KF9.out
    simp only [eE, eF] at e0 e1 e2 e3 e4 e5 e6 f0 f1 f2 f3 f4 f5 f6
    go_wp2_with fail
    have ba := (Below.refl w9.heap.size w9).alloc (Nat.le_refl _) (.cells #[.int .i64 1, .int .i64 1, .int .i64 1, .int .i64 1, .int .i64 1, .int .i64 0, .string ByteArray.empty] 30)
    have N10 := Lib.hid (show Rd (w9.alloc (.cells #[.int .i64 1, .int .i64 1, .int .i64 1, .int .i64 1, .int .i64 1, .int .i64 0, .string ByteArray.empty] 30)) (w9.alloc (.cells #[.int .i64 1, .int .i64 1, .int .i64 1, .int .i64 1, .int .i64 1, .int .i64 0, .string ByteArray.empty] 30)).heap.size (some ⟨w9.heap.size, 0, none⟩) 1 7 1 (els [eE]) from (Rd.new w9 #[.int .i64 1, .int .i64 1, .int .i64 1, .int .i64 1, .int .i64 1, .int .i64 0, .string ByteArray.empty] 30 7 1 rfl (by unfold maxLen; omega)).tight)
    clear e0 e1 e2 e3 e4 e5 e6 f0 f1 f2 f3 f4 f5 f6
    have RA10 := Lib.hid (RA9.out.past ba).tight
    have RB10 := Lib.hid (RB9.out.past ba).tight
    have KE10 := Lib.hid (KE9.out.past ba)
    have KF10 := Lib.hid (KF9.out.past ba)
    have BL10 := Lib.hid (BL9.out.trans (ba.mono BL9.out.size))
    clear RA9 RB9 KE9 KF9 BL9 ba
    generalize hw10 : w9.alloc (.cells #[.int .i64 1, .int .i64 1, .int .i64 1, .int .i64 1, .int .i64 1, .int .i64 0, .string ByteArray.empty] 30) = w10 at *
    clear hw10
    refine (jCast_c w10 _ _ _ _ 2 1 2 1 [(1, eE), (2, eF)] [eE] RB10.out N10.out (by omega) (by omega) okB okE1).mono ?_
    rw [show cast (([(1, eE), (2, eF)] : List Tl).map (·.2)) [eE] = false from by kernel_rfl]
    rintro x w11 ⟨rfl, b11⟩
    clear N10
    have RA11 := Lib.hid (RA10.out.past b11).tight
    have RB11 := Lib.hid (RB10.out.past b11).tight
    have KE11 := Lib.hid (KE10.out.past b11)
    have KF11 := Lib.hid (KF10.out.past b11)
    have BL11 := Lib.hid (BL10.out.trans (b11.mono BL10.out.size))
    clear RA10 RB10 KE10 KF10 BL10 b11
    obtain ⟨e0, e1, e2, e3, e4, e5, e6⟩ := Blk.ent (e := eE) KE11.out
    obtain ⟨f0, f1, f2, f3, f4, f5, f6⟩ := Blk.ent (e := eF) (KF11.out.alloc (.cells #[.int .i64 1, .int .i64 1, .int .i64 1, .int .i64 1, .int .i64 1, .int .i64 0, .string ByteArray.empty] 30))
    simp only [eE, eF] at e0 e1 e2 e3 e4 e5 e6 f0 f1 f2 f3 f4 f5 f6
    go_wp2_with fail
    have ba := (Below.refl w11.heap.size w11).alloc (Nat.le_refl _) (.cells #[.int .i64 1, .int .i64 1, .int .i64 1, .int .i64 1, .int .i64 1, .int .i64 0, .string ByteArray.empty] 30)
    have N0 := (Rd.new w11 #[.int .i64 1, .int .i64 1, .int .i64 1, .int .i64 1, .int .i64 1, .int .i64 0, .string ByteArray.empty] 30 7 1 rfl (by unfold maxLen; omega)).tight
    have bb := (Below.refl (w11.alloc (.cells #[.int .i64 1, .int .i64 1, .int .i64 1, .int .i64 1, .int .i64 1, .int .i64 0, .string ByteArray.empty] 30)).heap.size (w11.alloc (.cells #[.int .i64 1, .int .i64 1, .int .i64 1, .int .i64 1, .int .i64 1, .int .i64 0, .string ByteArray.empty] 30))).alloc (Nat.le_refl _) (.cells #[.int .i64 1, .int .i64 1, .int .i64 2, .int .i64 1, .int .i64 1, .int .i64 0, .string ByteArray.empty] 30)
    have N1 := Lib.hid (show Rd ((w11.alloc (.cells #[.int .i64 1, .int .i64 1, .int .i64 1, .int .i64 1, .int .i64 1, .int .i64 0, .string ByteArray.empty] 30)).alloc (.cells #[.int .i64 1, .int .i64 1, .int .i64 2, .int .i64 1, .int .i64 1, .int .i64 0, .string ByteArray.empty] 30)) _ (some ⟨w11.heap.size, 0, none⟩) 1 7 1 (els [eE]) from (N0.past bb).tight)
    have hs : (w11.alloc (.cells #[.int .i64 1, .int .i64 1, .int .i64 1, .int .i64 1, .int .i64 1, .int .i64 0, .string ByteArray.empty] 30)).heap.size = w11.heap.size + 1 := by simp
    have n2 := (Rd.new (w11.alloc (.cells #[.int .i64 1, .int .i64 1, .int .i64 1, .int .i64 1, .int .i64 1, .int .i64 0, .string ByteArray.empty] 30)) #[.int .i64 1, .int .i64 1, .int .i64 2, .int .i64 1, .int .i64 1, .int .i64 0, .string ByteArray.empty] 30 7 1 rfl (by unfold maxLen; omega)).tight
    rw [hs] at n2
    have N2 := Lib.hid (show Rd ((w11.alloc (.cells #[.int .i64 1, .int .i64 1, .int .i64 1, .int .i64 1, .int .i64 1, .int .i64 0, .string ByteArray.empty] 30)).alloc (.cells #[.int .i64 1, .int .i64 1, .int .i64 2, .int .i64 1, .int .i64 1, .int .i64 0, .string ByteArray.empty] 30)) _ (some ⟨w11.heap.size + 1, 0, none⟩) 1 7 1 (els [eF]) from n2)
    have b0 := ba.trans (bb.mono ba.size)
    clear ba bb N0 n2 hs
    clear e0 e1 e2 e3 e4 e5 e6 f0 f1 f2 f3 f4 f5 f6
    have RA12 := Lib.hid (RA11.out.past b0).tight
    have RB12 := Lib.hid (RB11.out.past b0).tight
    have KE12 := Lib.hid (KE11.out.past b0)
    have KF12 := Lib.hid (KF11.out.past b0)
    have BL12 := Lib.hid (BL11.out.trans (b0.mono BL11.out.size))
    clear RA11 RB11 KE11 KF11 BL11 b0
    generalize hw12 : (w11.alloc (.cells #[.int .i64 1, .int .i64 1, .int .i64 1, .int .i64 1, .int .i64 1, .int .i64 0, .string ByteArray.empty] 30)).alloc (.cells #[.int .i64 1, .int .i64 1, .int .i64 2, .int .i64 1, .int .i64 1, .int .i64 0, .string ByteArray.empty] 30) = w12 at *
    clear hw12
    refine (jAgree_c w12 _ _ _ _ 1 1 1 1 [eE] [eF] N1.out N2.out 1 0 (by omega) (by omega)).mono ?_
    rw [show agree [eE] 1 [eF] 0 = true from by kernel_rfl]
    rintro x w13 ⟨rfl, b13⟩
    clear N1 N2
    have RA13 := Lib.hid (RA12.out.past b13).tight
    have RB13 := Lib.hid (RB12.out.past b13).tight
    have KE13 := Lib.hid (KE12.out.past b13)
    have KF13 := Lib.hid (KF12.out.past b13)
    have BL13 := Lib.hid (BL12.out.trans (b13.mono BL12.out.size))
    clear RA12 RB12 KE12 KF12 BL12 b13
    obtain ⟨e0, e1, e2, e3, e4, e5, e6⟩ := Blk.ent (e := eE) KE13.out
    obtain ⟨f0, f1, f2, f3, f4, f5, f6⟩ := Blk.ent (e := eF) (KF13.out.alloc (.cells #[.int .i64 1, .int .i64 1, .int .i64 1, .int .i64 1, .int .i64 1, .int .i64 0, .string ByteArray.empty] 30))
    simp only [eE, eF] at e0 e1 e2 e3 e4 e5 e6 f0 f1 f2 f3 f4 f5 f6
    go_wp2_with fail
    have ba := (Below.refl w13.heap.size w13).alloc (Nat.le_refl _) (.cells #[.int .i64 1, .int .i64 1, .int .i64 1, .int .i64 1, .int .i64 1, .int .i64 0, .string ByteArray.empty] 30)
    have N0 := (Rd.new w13 #[.int .i64 1, .int .i64 1, .int .i64 1, .int .i64 1, .int .i64 1, .int .i64 0, .string ByteArray.empty] 30 7 1 rfl (by unfold maxLen; omega)).tight
    have bb := (Below.refl (w13.alloc (.cells #[.int .i64 1, .int .i64 1, .int .i64 1, .int .i64 1, .int .i64 1, .int .i64 0, .string ByteArray.empty] 30)).heap.size (w13.alloc (.cells #[.int .i64 1, .int .i64 1, .int .i64 1, .int .i64 1, .int .i64 1, .int .i64 0, .string ByteArray.empty] 30))).alloc (Nat.le_refl _) (.cells #[.int .i64 1, .int .i64 1, .int .i64 2, .int .i64 1, .int .i64 1, .int .i64 0, .string ByteArray.empty] 30)
    have N1 := Lib.hid (show Rd ((w13.alloc (.cells #[.int .i64 1, .int .i64 1, .int .i64 1, .int .i64 1, .int .i64 1, .int .i64 0, .string ByteArray.empty] 30)).alloc (.cells #[.int .i64 1, .int .i64 1, .int .i64 2, .int .i64 1, .int .i64 1, .int .i64 0, .string ByteArray.empty] 30)) _ (some ⟨w13.heap.size, 0, none⟩) 1 7 1 (els [eE]) from (N0.past bb).tight)
    have hs : (w13.alloc (.cells #[.int .i64 1, .int .i64 1, .int .i64 1, .int .i64 1, .int .i64 1, .int .i64 0, .string ByteArray.empty] 30)).heap.size = w13.heap.size + 1 := by simp
    have n2 := (Rd.new (w13.alloc (.cells #[.int .i64 1, .int .i64 1, .int .i64 1, .int .i64 1, .int .i64 1, .int .i64 0, .string ByteArray.empty] 30)) #[.int .i64 1, .int .i64 1, .int .i64 2, .int .i64 1, .int .i64 1, .int .i64 0, .string ByteArray.empty] 30 7 1 rfl (by unfold maxLen; omega)).tight
    rw [hs] at n2
    have N2 := Lib.hid (show Rd ((w13.alloc (.cells #[.int .i64 1, .int .i64 1, .int .i64 1, .int .i64 1, .int .i64 1, .int .i64 0, .string ByteArray.empty] 30)).alloc (.cells #[.int .i64 1, .int .i64 1, .int .i64 2, .int .i64 1, .int .i64 1, .int .i64 0, .string ByteArray.empty] 30)) _ (some ⟨w13.heap.size + 1, 0, none⟩) 1 7 1 (els [eF]) from n2)
    have b0 := ba.trans (bb.mono ba.size)
    clear ba bb N0 n2 hs
    clear e0 e1 e2 e3 e4 e5 e6 f0 f1 f2 f3 f4 f5 f6
    have RA14 := Lib.hid (RA13.out.past b0).tight
    have RB14 := Lib.hid (RB13.out.past b0).tight
    have KE14 := Lib.hid (KE13.out.past b0)
    have KF14 := Lib.hid (KF13.out.past b0)
    have BL14 := Lib.hid (BL13.out.trans (b0.mono BL13.out.size))
    clear RA13 RB13 KE13 KF13 BL13 b0
    generalize hw14 : (w13.alloc (.cells #[.int .i64 1, .int .i64 1, .int .i64 1, .int .i64 1, .int .i64 1, .int .i64 0, .string ByteArray.empty] 30)).alloc (.cells #[.int .i64 1, .int .i64 1, .int .i64 2, .int .i64 1, .int .i64 1, .int .i64 0, .string ByteArray.empty] 30) = w14 at *
    clear hw14
    refine (jAgree_c w14 _ _ _ _ 1 1 1 1 [eE] [eF] N1.out N2.out 1 5 (by omega) (by omega)).mono ?_
    rw [show agree [eE] 1 [eF] 5 = false from by kernel_rfl]
    rintro x w15 ⟨rfl, b15⟩
    clear N1 N2
    have RA15 := Lib.hid (RA14.out.past b15).tight
    have RB15 := Lib.hid (RB14.out.past b15).tight
    have KE15 := Lib.hid (KE14.out.past b15)
    have KF15 := Lib.hid (KF14.out.past b15)
    have BL15 := Lib.hid (BL14.out.trans (b15.mono BL14.out.size))
    clear RA14 RB14 KE14 KF14 BL14 b15
    go_wp2_with fail
    go_ret
    exact ⟨rfl, BL15.out⟩
end Go.Proofs.Ytkpgijmpaklfgaa
