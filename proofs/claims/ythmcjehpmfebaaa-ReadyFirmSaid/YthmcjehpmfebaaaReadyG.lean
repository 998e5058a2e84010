/- Contracts of the library's Clone at what was told, of the queue's New, Told; of all at no queue. -/
import Derived.Test.YthmcjehpmfebaaaReadyF
namespace Go.Proofs.Ythmcjehpmfebaaa
open Go.RowKit PReady

theorem cloneT_c (w : World) (B : Nat) (A : Option Addr) (c n : Nat) (l : List Tl) (h : Rd w B A c 8 n (tls l)) (hn : n ≤ 1000000) :
    Calls Try.prog 29 #[.slice A n c] w fun e w' => ∃ A' c', e = .returned (.slice A' n c') ∧ w'.ownsRow w.heap.size 44 8 (.slice A' n c') n (tls l) ∧ Below w.heap.size w w' := by
  have hl := h.tlen
  cases A with
  | none =>
    have hc := h.2.2.2.1 rfl
    have hle := h.le
    have h0 : n = 0 := by omega
    subst h0
    subst hc
    have e0 : l = [] := List.eq_nil_of_length_eq_zero hl
    subst e0
    clear h hl hle
    have hnil : ∀ W, (binOp .eql 30 (.slice none 0 0) (.slice none 0 0)).run Try.prog W = .ok (.bool true) W := fun W => by rw [run_eql_nil_slice W _ _ none 0 0 0 0 Try.underlying30]; rfl
    go_enter Try.func29, Try.ntmps29
    go_wp2_with fail
    go_ret
    exact ⟨none, 0, rfl, World.ownsRow_nil _ _ _ _, Below.refl _ _⟩
  | some ad =>
    have hr := h.alloc (.cells #[] 44)
    have hown0 := World.ownsRow_lit (base := w.heap.size) (e := 44) (size := 8) w #[] 0 (Nat.le_refl _) (by simp [maxLen]) rfl
    have hb0 : Below w.heap.size w (w.alloc (.cells #[] 44)) := (Below.refl _ _).alloc (Nat.le_refl _) _
    clear h hl
    have hnil : ∀ W, (binOp .eql 30 (.slice (some ad) n c) (.slice none 0 0)).run Try.prog W = .ok (.bool false) W := fun W => Lib.run_eql_slice_nil W _ _ (some ad) n c 0 0 Try.underlying30
    go_enter Try.func29, Try.ntmps29
    go_wp2_with (at_builtin; go_must (refine wpList_app rfl (.tmp 5) (.tmp 6) _ rfl w.heap.size 44 _ 8 72 Try.underlying30 told_info rfl (by omega) _ 0 [] rfl hown0 B (some ad) c n (tls l) rfl hr (tls_one l) ?c1 ?c2 hb0.size ?_))
    case c1 => unfold maxLen; omega
    case c2 => omega
    intro A' c' w1 hown1 hgrow1 hbel1
    have hown1' : w1.ownsRow w.heap.size 44 8 (.slice A' n c') n (tls l) := by simpa using hown1
    clear hown1
    have e1 : (0 + n) = n := by omega
    try rw [e1]
    go_wp2_with fail
    go_ret
    exact ⟨A', c', rfl, hown1', hb0.trans hbel1⟩

theorem Told_c (w : World) (g : Nat) (F : List Nat) (T : List Tl) (h : Qu w g F T) :
    Calls Try.prog 21 #[.pointer (some ⟨g, 0, none⟩)] w fun x w' => ∃ A' c', x = .returned (.slice A' T.length c') ∧ w'.ownsRow w.heap.size 44 8 (.slice A' T.length c') T.length (tls T) ∧ Below w.heap.size w w' := by
  obtain ⟨A, c, q, d0, d1, R, -, -⟩ := h.open
  have HL := Lib.hid h.le
  have R0 := Lib.hid R
  clear h R d1
  go_enter Try.func21, Try.ntmps21
  go_wp2_with fail
  refine (cloneT_c w _ A c T.length T R0.out HL.out).mono ?_
  rintro x w1 ⟨A', c', rfl, ho, hb⟩
  go_wp2_with fail
  go_ret
  exact ⟨A', c', rfl, ho, hb⟩

theorem New_c (w : World) : Calls Try.prog 15 #[] w fun x w' => x = .returned (.pointer (some ⟨w.heap.size, 0, none⟩)) ∧ Qu w' w.heap.size [w.heap.size] [] ∧ Below w.heap.size w w' := by
  have K := Blk.new w #[.slice none 0 0, .map none] 59
  have HX := Lib.hid (show Qu (w.alloc (.cells #[.slice none 0 0, .map none] 59)) w.heap.size [w.heap.size] [] from
    ⟨⟨none, 0, none, K, Ow.nil _ _ _ _, .inl ⟨rfl, rfl⟩, rfl⟩, by simp⟩)
  have B := Lib.hid ((Below.refl w.heap.size w).alloc (Nat.le_refl _) (.cells #[.slice none 0 0, .map none] 59))
  clear K
  go_enter Try.func15, Try.ntmps15
  go_wp2_with fail
  go_ret
  exact ⟨rfl, HX.out, B.out⟩

theorem Told_nil (w : World) : Calls Try.prog 21 #[.pointer none] w fun x w' => x = .returned (.slice none 0 0) ∧ w = w' := by
  go_enter Try.func21, Try.ntmps21
  go_wp2_with fail
  go_ret
  exact ⟨rfl, rfl⟩
theorem Go_nil (w : World) (A : Option Addr) (c n : Nat) (commit now : Int) : Calls Try.prog 17 #[.pointer none, .slice A n c, .int .i64 commit, .int .i64 now] w fun x w' => x = .returned (.slice none 0 0) ∧ w = w' := by
  go_enter Try.func17, Try.ntmps17
  go_wp2_with fail
  go_ret
  exact ⟨rfl, rfl⟩
end Go.Proofs.Ythmcjehpmfebaaa
