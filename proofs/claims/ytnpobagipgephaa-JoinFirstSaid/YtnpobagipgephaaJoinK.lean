/- A law's join; begun. -/
import Derived.Test.YtnpobagipgephaaJoinC
import Derived.Test.YtnpobagipgephaaJoinD
import Derived.Test.YtnpobagipgephaaJoinE
import Derived.Test.YtnpobagipgephaaHeldT
namespace Go.Proofs.Ytnpobagipgephaa
open Go.RowKit PJoin

/-- A law's join: what the law made, at block g. -/
structure Sj (w0 w : World) (g : Nat) (me n boot pro : Int) (o : Option Msg) : Prop where
  bel : Below w0.heap.size w0 w
  ex : ∃ F, Jn w g F me n boot pro o ∧ ∀ k ∈ F, w0.heap.size ≤ k
section
variable {w0 w w' : World} {g : Nat} {me n boot pro : Int} {o : Option Msg}
theorem Sj.past (h : Sj w0 w g me n boot pro o) (b : Below w.heap.size w w') : Sj w0 w' g me n boot pro o := by
  obtain ⟨F, h1, h2⟩ := h.ex
  exact ⟨h.bel.trans (b.mono h.bel.size), F, h1.past b, h2⟩
theorem Sj.alloc (h : Sj w0 w g me n boot pro o) (x : Obj) : Sj w0 (w.alloc x) g me n boot pro o := h.past ((Below.refl _ _).alloc (Nat.le_refl _) _)
theorem Sj.lt (h : Sj w0 w g me n boot pro o) : g < w.heap.size := by obtain ⟨F, h1, h2⟩ := h.ex; exact h1.hi g h1.self
/-- Behind what was written beside it. -/
theorem Sj.far {S : List Nat} (h : Sj w0 w g me n boot pro o) (t : Touch S w w') (hs : ∀ k ∈ S, w0.heap.size ≤ k) (hb : ∀ k ∈ S, ∃ ys, Blk w k 30 ys) : Sj w0 w' g me n boot pro o := by
  obtain ⟨F, h1, h2⟩ := h.ex
  refine ⟨h.bel.trans (t.below hs h.bel.size), F, h1.touch t (fun k hk hF => ?_), h2⟩
  obtain ⟨ys, hy⟩ := hb k hk
  obtain ⟨T, zs, hz, hT⟩ := h1.kinds k hF
  rcases hT with rfl | rfl
  · exact hy.ne hz (by decide) rfl
  · exact hy.ne hz (by decide) rfl
theorem Sj.new (h : Below w0.heap.size w0 w) (h1 : 3 ≤ n) (h2 : n ≤ 7) (h3 : 1 ≤ me) (h4 : me ≤ n) (h5 : 1 ≤ boot) (h6 : boot ≤ 1099511627776) (h7 : 0 ≤ pro) (h8 : pro ≤ 1099511627776) :
    Calls Try.prog 7 #[.int .i64 me, .int .i64 n, .int .i64 boot, .int .i64 pro] w fun e w' => e = .returned (.pointer (some ⟨w.heap.size, 0, none⟩)) ∧ Sj w0 w' w.heap.size me n boot pro none ∧ Below w.heap.size w w' :=
  (jnew_yes w me n boot pro h1 h2 h3 h4 h5 h6 h7 h8).mono fun _ _ ⟨e1, e2, e3⟩ => ⟨e1, ⟨h.trans (e3.mono h.size), _, e2, fun k hk => by rw [List.mem_singleton.1 hk]; exact h.size⟩, e3⟩
theorem Sj.hear_no (h : Sj w0 w g me n boot pro o) {m : Msg} {A : Option Addr} {c : Nat} (R : Rd w w.heap.size A c 7 m.es.length (els m.es)) (hv : -9223372036854775808 ≤ m.view ∧ m.view ≤ 9223372036854775807) (hm : -9223372036854775808 ≤ m.mem ∧ m.mem ≤ 9223372036854775807)
    (hw : o.isSome = true ∨ word me n boot pro m = false) : Calls Try.prog 11 #[.pointer (some ⟨g, 0, none⟩), mv m A c] w fun e w' => e = .returned (.bool false) ∧ Below w.heap.size w w' := by
  obtain ⟨F, h1, h2⟩ := h.ex
  exact jhear_no w g F me n boot pro m A c R hv hm o h1 hw
theorem Sj.hear_yes (h : Sj w0 w g me n boot pro none) {m : Msg} {A : Option Addr} {c : Nat} (R : Rd w w.heap.size A c 7 m.es.length (els m.es)) (hv : -9223372036854775808 ≤ m.view ∧ m.view ≤ 9223372036854775807) (hm : -9223372036854775808 ≤ m.mem ∧ m.mem ≤ 9223372036854775807)
    (hw : word me n boot pro m = true) : Calls Try.prog 11 #[.pointer (some ⟨g, 0, none⟩), mv m A c] w fun e w' => e = .returned (.bool true) ∧ Sj w0 w' g me n boot pro (some m) ∧ (∀ k ys, Blk w k 30 ys → Blk w' k 30 ys) ∧ Below w0.heap.size w w' := by
  obtain ⟨F, h1, h2⟩ := h.ex
  refine (jhear_yes w g F me n boot pro m A c R hv hm h1 hw).mono ?_
  rintro e w' ⟨rfl, ⟨F', k1, k2⟩, k3⟩
  refine ⟨rfl, ⟨h.bel.trans (k3.below h2 h.bel.size), F', k1, fun k hk => ?_⟩, fun k ys hy => hy.touch k3 (fun hF => ?_), k3.below h2 h.bel.size⟩
  · rcases k2 k hk with q | q
    · exact h2 k q
    · exact Nat.le_trans h.bel.size q
  · obtain ⟨T, zs, hz, hT⟩ := h1.kinds k hF
    rcases hT with rfl | rfl
    · exact hy.ne hz (by decide) rfl
    · exact hy.ne hz (by decide) rfl
theorem Sj.got_no (h : Sj w0 w g me n boot pro none) : Calls Try.prog 10 #[.pointer (some ⟨g, 0, none⟩)] w fun e w' => e = .returned (.tuple #[mv zeroM none 0, .bool false]) ∧ Below w.heap.size w w' := by
  obtain ⟨F, h1, h2⟩ := h.ex
  exact jgot_no w g F me n boot pro h1
theorem Sj.got_yes {m : Msg} (h : Sj w0 w g me n boot pro (some m)) : Calls Try.prog 10 #[.pointer (some ⟨g, 0, none⟩)] w fun e w' => ∃ A' c', e = .returned (.tuple #[mv m A' c', .bool true]) ∧ w'.ownsRow w.heap.size 47 7 (.slice A' m.es.length c') m.es.length (els m.es) ∧ Below w.heap.size w w' := by
  obtain ⟨F, h1, h2⟩ := h.ex
  exact jgot_yes w g F me n boot pro m h1
end
theorem Sj.ask {w0 w : World} {g n : Nat} {me boot pro : Int} {o : Option Msg} (h : Sj w0 w g me n boot pro o) (hn : n ≤ 7) : Calls Try.prog 8 #[.pointer (some ⟨g, 0, none⟩)] w fun e w' => ∃ A c, e = .returned (.slice A (asksP me boot n).length c) ∧ Ms w' w.heap.size A c (asksP me boot n) ∧ Below w.heap.size w w' := by
  obtain ⟨F, h1, h2⟩ := h.ex
  exact jask_c w g F me boot pro n hn o h1

def begM (v : Int) : Msg := ⟨11, 1, 2, 1, v, 0, 3, 0, [], 0, 4, 0, true⟩
theorem begM_no : word 2 3 4 5 (begM 4) = false := by decide +kernel
theorem begM_yes : word 2 3 4 5 (begM 7) = true := by decide +kernel
set_option maxHeartbeats 8000000 in
set_option maxRecDepth 100000 in
theorem begunJ_c (w : World) : Calls Try.prog 6 #[] w fun e w' => e = .returned (.bool true) ∧ Below w.heap.size w w' := by
  go_enter Try.func6, Try.ntmps6
  go_wp2_with fail
  refine (Sj.new (Below.refl w.heap.size w) (me := 2) (n := 3) (boot := 4) (pro := 5) (by decide) (by decide) (by decide) (by decide) (by decide) (by decide) (by decide) (by decide)).mono ?_
  rintro e w1 ⟨rfl, s, -⟩
  have S1 := Lib.hid s
  clear s
  go_wp2_with fail
  refine (jnew_no w1 4 3 1 0 (by omega)).mono ?_
  rintro e w2 ⟨rfl, rfl⟩
  go_wp2_with fail
  refine (jnew_no w1 1 3 0 0 (by omega)).mono ?_
  rintro e w2 ⟨rfl, rfl⟩
  have hA : Blk (w1.alloc (.cells #[.int .i64 0, .int .i64 0, .int .i64 0, .int .i64 0, .int .i64 0, .int .i64 0, .int .i64 0, .int .i64 0, .slice none 0 0, .int .i64 0, .int .i64 0, .int .i64 0, .bool false] 30)) w1.heap.size 30 (mcs zeroM none 0) := Blk.new w1 #[.int .i64 0, .int .i64 0, .int .i64 0, .int .i64 0, .int .i64 0, .int .i64 0, .int .i64 0, .int .i64 0, .slice none 0 0, .int .i64 0, .int .i64 0, .int .i64 0, .bool false] 30
  have eA : ((w1.alloc (.cells #[.int .i64 0, .int .i64 0, .int .i64 0, .int .i64 0, .int .i64 0, .int .i64 0, .int .i64 0, .int .i64 0, .slice none 0 0, .int .i64 0, .int .i64 0, .int .i64 0, .bool false] 30)).setRow w1.heap.size #[.int .i64 11, .int .i64 1, .int .i64 2, .int .i64 1, .int .i64 7, .int .i64 0, .int .i64 3, .int .i64 0, .slice none 0 0, .int .i64 0, .int .i64 4, .int .i64 0, .bool true]).heap.size = w1.heap.size + 1 := by simp
  have KB := Lib.hid (show Blk ((w1.alloc (.cells #[.int .i64 0, .int .i64 0, .int .i64 0, .int .i64 0, .int .i64 0, .int .i64 0, .int .i64 0, .int .i64 0, .slice none 0 0, .int .i64 0, .int .i64 0, .int .i64 0, .bool false] 30)).setRow w1.heap.size #[.int .i64 11, .int .i64 1, .int .i64 2, .int .i64 1, .int .i64 7, .int .i64 0, .int .i64 3, .int .i64 0, .slice none 0 0, .int .i64 0, .int .i64 4, .int .i64 0, .bool true]) w1.heap.size 30 (mcs (begM 7) none 0) from hA.row #[.int .i64 11, .int .i64 1, .int .i64 2, .int .i64 1, .int .i64 7, .int .i64 0, .int .i64 3, .int .i64 0, .slice none 0 0, .int .i64 0, .int .i64 4, .int .i64 0, .bool true])
  have hC : Blk (((w1.alloc (.cells #[.int .i64 0, .int .i64 0, .int .i64 0, .int .i64 0, .int .i64 0, .int .i64 0, .int .i64 0, .int .i64 0, .slice none 0 0, .int .i64 0, .int .i64 0, .int .i64 0, .bool false] 30)).setRow w1.heap.size #[.int .i64 11, .int .i64 1, .int .i64 2, .int .i64 1, .int .i64 7, .int .i64 0, .int .i64 3, .int .i64 0, .slice none 0 0, .int .i64 0, .int .i64 4, .int .i64 0, .bool true]).alloc (.cells #[.int .i64 0, .int .i64 0, .int .i64 0, .int .i64 0, .int .i64 0, .int .i64 0, .int .i64 0, .int .i64 0, .slice none 0 0, .int .i64 0, .int .i64 0, .int .i64 0, .bool false] 30)) (w1.heap.size + 1) 30 (mcs zeroM none 0) := by
    have := Blk.new ((w1.alloc (.cells #[.int .i64 0, .int .i64 0, .int .i64 0, .int .i64 0, .int .i64 0, .int .i64 0, .int .i64 0, .int .i64 0, .slice none 0 0, .int .i64 0, .int .i64 0, .int .i64 0, .bool false] 30)).setRow w1.heap.size #[.int .i64 11, .int .i64 1, .int .i64 2, .int .i64 1, .int .i64 7, .int .i64 0, .int .i64 3, .int .i64 0, .slice none 0 0, .int .i64 0, .int .i64 4, .int .i64 0, .bool true]) #[.int .i64 0, .int .i64 0, .int .i64 0, .int .i64 0, .int .i64 0, .int .i64 0, .int .i64 0, .int .i64 0, .slice none 0 0, .int .i64 0, .int .i64 0, .int .i64 0, .bool false] 30
    rw [eA] at this
    exact this
  have KBC := Lib.hid (KB.out.alloc (.cells #[.int .i64 0, .int .i64 0, .int .i64 0, .int .i64 0, .int .i64 0, .int .i64 0, .int .i64 0, .int .i64 0, .slice none 0 0, .int .i64 0, .int .i64 0, .int .i64 0, .bool false] 30))
  have hD : Blk ((((w1.alloc (.cells #[.int .i64 0, .int .i64 0, .int .i64 0, .int .i64 0, .int .i64 0, .int .i64 0, .int .i64 0, .int .i64 0, .slice none 0 0, .int .i64 0, .int .i64 0, .int .i64 0, .bool false] 30)).setRow w1.heap.size #[.int .i64 11, .int .i64 1, .int .i64 2, .int .i64 1, .int .i64 7, .int .i64 0, .int .i64 3, .int .i64 0, .slice none 0 0, .int .i64 0, .int .i64 4, .int .i64 0, .bool true]).alloc (.cells #[.int .i64 0, .int .i64 0, .int .i64 0, .int .i64 0, .int .i64 0, .int .i64 0, .int .i64 0, .int .i64 0, .slice none 0 0, .int .i64 0, .int .i64 0, .int .i64 0, .bool false] 30)).setRow (w1.heap.size + 1) #[.int .i64 11, .int .i64 1, .int .i64 2, .int .i64 1, .int .i64 7, .int .i64 0, .int .i64 3, .int .i64 0, .slice none 0 0, .int .i64 0, .int .i64 4, .int .i64 0, .bool true]) (w1.heap.size + 1) 30 (mcs (begM 7) none 0) := hC.row #[.int .i64 11, .int .i64 1, .int .i64 2, .int .i64 1, .int .i64 7, .int .i64 0, .int .i64 3, .int .i64 0, .slice none 0 0, .int .i64 0, .int .i64 4, .int .i64 0, .bool true]
  have f4 := hD.cell (i := 4) rfl
  have z4 := hD.free 4
  have KE := Lib.hid (show Blk (((((w1.alloc (.cells #[.int .i64 0, .int .i64 0, .int .i64 0, .int .i64 0, .int .i64 0, .int .i64 0, .int .i64 0, .int .i64 0, .slice none 0 0, .int .i64 0, .int .i64 0, .int .i64 0, .bool false] 30)).setRow w1.heap.size #[.int .i64 11, .int .i64 1, .int .i64 2, .int .i64 1, .int .i64 7, .int .i64 0, .int .i64 3, .int .i64 0, .slice none 0 0, .int .i64 0, .int .i64 4, .int .i64 0, .bool true]).alloc (.cells #[.int .i64 0, .int .i64 0, .int .i64 0, .int .i64 0, .int .i64 0, .int .i64 0, .int .i64 0, .int .i64 0, .slice none 0 0, .int .i64 0, .int .i64 0, .int .i64 0, .bool false] 30)).setRow (w1.heap.size + 1) #[.int .i64 11, .int .i64 1, .int .i64 2, .int .i64 1, .int .i64 7, .int .i64 0, .int .i64 3, .int .i64 0, .slice none 0 0, .int .i64 0, .int .i64 4, .int .i64 0, .bool true]).setCell ⟨w1.heap.size + 1, 4, none⟩ (.int .i64 4)) (w1.heap.size + 1) 30 (mcs (begM 4) none 0) from hD.set 4 _)
  have TE : Touch [w1.heap.size, w1.heap.size + 1] w1 (((((w1.alloc (.cells #[.int .i64 0, .int .i64 0, .int .i64 0, .int .i64 0, .int .i64 0, .int .i64 0, .int .i64 0, .int .i64 0, .slice none 0 0, .int .i64 0, .int .i64 0, .int .i64 0, .bool false] 30)).setRow w1.heap.size #[.int .i64 11, .int .i64 1, .int .i64 2, .int .i64 1, .int .i64 7, .int .i64 0, .int .i64 3, .int .i64 0, .slice none 0 0, .int .i64 0, .int .i64 4, .int .i64 0, .bool true]).alloc (.cells #[.int .i64 0, .int .i64 0, .int .i64 0, .int .i64 0, .int .i64 0, .int .i64 0, .int .i64 0, .int .i64 0, .slice none 0 0, .int .i64 0, .int .i64 0, .int .i64 0, .bool false] 30)).setRow (w1.heap.size + 1) #[.int .i64 11, .int .i64 1, .int .i64 2, .int .i64 1, .int .i64 7, .int .i64 0, .int .i64 3, .int .i64 0, .slice none 0 0, .int .i64 0, .int .i64 4, .int .i64 0, .bool true]).setCell ⟨w1.heap.size + 1, 4, none⟩ (.int .i64 4)) :=
    ((((Touch.of_below ((Below.refl _ _).alloc (Nat.le_refl _) _)).trans ((Touch.of_grown (grown_row _ _ _)).wide (by simp))).alloc _).trans ((Touch.of_grown (grown_row _ _ _)).wide (by simp))).trans ((Touch.of_grown (grown_set _ _ _ _)).wide (by simp))
  have BE : Below w1.heap.size w1 (((((w1.alloc (.cells #[.int .i64 0, .int .i64 0, .int .i64 0, .int .i64 0, .int .i64 0, .int .i64 0, .int .i64 0, .int .i64 0, .slice none 0 0, .int .i64 0, .int .i64 0, .int .i64 0, .bool false] 30)).setRow w1.heap.size #[.int .i64 11, .int .i64 1, .int .i64 2, .int .i64 1, .int .i64 7, .int .i64 0, .int .i64 3, .int .i64 0, .slice none 0 0, .int .i64 0, .int .i64 4, .int .i64 0, .bool true]).alloc (.cells #[.int .i64 0, .int .i64 0, .int .i64 0, .int .i64 0, .int .i64 0, .int .i64 0, .int .i64 0, .int .i64 0, .slice none 0 0, .int .i64 0, .int .i64 0, .int .i64 0, .bool false] 30)).setRow (w1.heap.size + 1) #[.int .i64 11, .int .i64 1, .int .i64 2, .int .i64 1, .int .i64 7, .int .i64 0, .int .i64 3, .int .i64 0, .slice none 0 0, .int .i64 0, .int .i64 4, .int .i64 0, .bool true]).setCell ⟨w1.heap.size + 1, 4, none⟩ (.int .i64 4)) := TE.below (by simp) (Nat.le_refl _)
  have SE := Lib.hid (S1.out.past BE)
  have KM := Lib.hid (show Blk (((((w1.alloc (.cells #[.int .i64 0, .int .i64 0, .int .i64 0, .int .i64 0, .int .i64 0, .int .i64 0, .int .i64 0, .int .i64 0, .slice none 0 0, .int .i64 0, .int .i64 0, .int .i64 0, .bool false] 30)).setRow w1.heap.size #[.int .i64 11, .int .i64 1, .int .i64 2, .int .i64 1, .int .i64 7, .int .i64 0, .int .i64 3, .int .i64 0, .slice none 0 0, .int .i64 0, .int .i64 4, .int .i64 0, .bool true]).alloc (.cells #[.int .i64 0, .int .i64 0, .int .i64 0, .int .i64 0, .int .i64 0, .int .i64 0, .int .i64 0, .int .i64 0, .slice none 0 0, .int .i64 0, .int .i64 0, .int .i64 0, .bool false] 30)).setRow (w1.heap.size + 1) #[.int .i64 11, .int .i64 1, .int .i64 2, .int .i64 1, .int .i64 7, .int .i64 0, .int .i64 3, .int .i64 0, .slice none 0 0, .int .i64 0, .int .i64 4, .int .i64 0, .bool true]).setCell ⟨w1.heap.size + 1, 4, none⟩ (.int .i64 4)) w1.heap.size 30 (mcs (begM 7) none 0) from (KBC.out.touch (.of_grown (grown_row _ _ _)) (by simp)).touch (.of_grown (grown_set _ _ _ _)) (by simp))
  have KA := Lib.hid hA
  have KC := Lib.hid hC
  clear hA hC hD eA TE BE S1
  go_wp2_with (first | ((with_reducible show wpList _ _ _ ((⟨none, Op.store 30 (.tmp 2) _, _, _, _, _⟩ : Oper) :: _) _ _); go_must (refine wpList_store_row rfl 30 (.tmp 2) (.tmp 22) rfl w1.heap.size _ rfl rfl _ _ KA.out (by kernel_rfl) (by rfl) (by kernel_rfl) ?_)) | ((with_reducible show wpList _ _ _ ((⟨some 23, Op.load _ _, _, _, _, _⟩ : Oper) :: _) _ _); go_must (refine wpList_load_row rfl 30 (.tmp 2) rfl w1.heap.size rfl 30 #[.int .i64 11, .int .i64 1, .int .i64 2, .int .i64 1, .int .i64 7, .int .i64 0, .int .i64 3, .int .i64 0, .slice none 0 0, .int .i64 0, .int .i64 4, .int .i64 0, .bool true] (0, 0) _ KB.out Try.underlying30 rfl (by kernel_rfl) ?_)) | ((with_reducible show wpList _ _ _ ((⟨none, Op.store 30 (.tmp 3) _, _, _, _, _⟩ : Oper) :: _) _ _); go_must (refine wpList_store_row rfl 30 (.tmp 3) (.tmp 23) rfl (w1.heap.size + 1) _ rfl rfl _ _ KC.out (by kernel_rfl) (by rfl) (by kernel_rfl) ?_)) | ((with_reducible show wpList _ _ _ ((⟨some 26, Op.load _ _, _, _, _, _⟩ : Oper) :: _) _ _); go_must (refine wpList_load_row rfl 30 (.tmp 3) rfl (w1.heap.size + 1) rfl 30 #[.int .i64 11, .int .i64 1, .int .i64 2, .int .i64 1, .int .i64 4, .int .i64 0, .int .i64 3, .int .i64 0, .slice none 0 0, .int .i64 0, .int .i64 4, .int .i64 0, .bool true] (0, 0) _ KE.out Try.underlying30 rfl (by kernel_rfl) ?_)))
  clear f4 z4 KA KC KB KBC
  obtain ⟨k1, hk1⟩ : ∃ k, w1.heap.size = k := ⟨_, rfl⟩
  rw [hk1] at KM SE ⊢
  clear KE
  clear hk1
  generalize (((((w1.alloc (.cells #[.int .i64 0, .int .i64 0, .int .i64 0, .int .i64 0, .int .i64 0, .int .i64 0, .int .i64 0, .int .i64 0, .slice none 0 0, .int .i64 0, .int .i64 0, .int .i64 0, .bool false] 30)).setRow k1 #[.int .i64 11, .int .i64 1, .int .i64 2, .int .i64 1, .int .i64 7, .int .i64 0, .int .i64 3, .int .i64 0, .slice none 0 0, .int .i64 0, .int .i64 4, .int .i64 0, .bool true]).alloc (.cells #[.int .i64 0, .int .i64 0, .int .i64 0, .int .i64 0, .int .i64 0, .int .i64 0, .int .i64 0, .int .i64 0, .slice none 0 0, .int .i64 0, .int .i64 0, .int .i64 0, .bool false] 30)).setRow (k1 + 1) #[.int .i64 11, .int .i64 1, .int .i64 2, .int .i64 1, .int .i64 7, .int .i64 0, .int .i64 3, .int .i64 0, .slice none 0 0, .int .i64 0, .int .i64 4, .int .i64 0, .bool true]).setCell ⟨k1 + 1, 4, none⟩ (.int .i64 4)) = w2 at *
  refine (SE.out.hear_no (m := begM 4) (A := none) (c := 0) (Rd.nil _ _ _) (by decide) (by decide) (.inr begM_no)).mono ?_
  rintro e w3 ⟨rfl, b3⟩
  have S3 := Lib.hid (SE.out.past b3)
  have K3 := Lib.hid (KM.out.past b3)
  clear b3 SE KM
  go_wp2_with fail
  refine S3.out.got_no.mono ?_
  simp only [mv, zeroM]
  rintro e w4 ⟨rfl, b4⟩
  have S4 := S3.out.past b4
  have K4 := K3.out.past b4
  have N4 := Lib.hid (show Blk (w4.alloc (.cells #[.int .i64 0, .int .i64 0, .int .i64 0, .int .i64 0, .int .i64 0, .int .i64 0, .int .i64 0, .int .i64 0, .slice none 0 0, .int .i64 0, .int .i64 0, .int .i64 0, .bool false] 30)) w4.heap.size 30 (mcs zeroM none 0) from Blk.new w4 #[.int .i64 0, .int .i64 0, .int .i64 0, .int .i64 0, .int .i64 0, .int .i64 0, .int .i64 0, .int .i64 0, .slice none 0 0, .int .i64 0, .int .i64 0, .int .i64 0, .bool false] 30)
  have b5 : Below w4.heap.size w4 ((w4.alloc (.cells #[.int .i64 0, .int .i64 0, .int .i64 0, .int .i64 0, .int .i64 0, .int .i64 0, .int .i64 0, .int .i64 0, .slice none 0 0, .int .i64 0, .int .i64 0, .int .i64 0, .bool false] 30)).setRow w4.heap.size #[.int .i64 0, .int .i64 0, .int .i64 0, .int .i64 0, .int .i64 0, .int .i64 0, .int .i64 0, .int .i64 0, .slice none 0 0, .int .i64 0, .int .i64 0, .int .i64 0, .bool false]) := (((Touch.of_below (S := [w4.heap.size]) ((Below.refl _ _).alloc (Nat.le_refl _) _)).trans (.of_grown (grown_row _ _ _))).below (by simp) (Nat.le_refl _))
  have S5 := Lib.hid (S4.past b5)
  have K5 := Lib.hid (K4.past b5)
  clear b4 b5 S4 K4 S3 K3
  go_wp2_with ((with_reducible show wpList _ _ _ ((⟨none, Op.store 30 (.tmp 5) _, _, _, _, _⟩ : Oper) :: _) _ _); go_must (refine wpList_store_row rfl 30 (.tmp 5) (.tmp 31) rfl w4.heap.size _ rfl rfl _ _ N4.out (by kernel_rfl) (by rfl) (by kernel_rfl) ?_))
  clear N4
  generalize (w4.alloc (.cells #[.int .i64 0, .int .i64 0, .int .i64 0, .int .i64 0, .int .i64 0, .int .i64 0, .int .i64 0, .int .i64 0, .slice none 0 0, .int .i64 0, .int .i64 0, .int .i64 0, .bool false] 30)).setRow w4.heap.size #[.int .i64 0, .int .i64 0, .int .i64 0, .int .i64 0, .int .i64 0, .int .i64 0, .int .i64 0, .int .i64 0, .slice none 0 0, .int .i64 0, .int .i64 0, .int .i64 0, .bool false] = w5 at *
  obtain ⟨F, J5, HFW⟩ := S5.out.ex
  have J5 := Lib.hid J5
  have HFW := Lib.hid HFW
  have HK5 := Lib.hid (show k1 ∉ F from fun hF => by
    obtain ⟨T, zs, hz, hT⟩ := J5.out.kinds k1 hF
    rcases hT with rfl | rfl
    · exact K5.out.ne hz (by decide) rfl
    · exact K5.out.ne hz (by decide) rfl)
-- REGION curfew/curfewlaw24.begun 9 jbeg9 2
  refine Hs.begin (F) ?_
  refine Hs.take (v := .pointer (some ⟨w.heap.size, 0, none⟩)) 0 33 rfl ?_ (fun _ _ => rfl)
  refine Hs.take (v := mv (begM 7) none 0) 1 34 rfl ?_ (fun w' hw' => by exact run_loadM (Blk.touch (show Blk w5.drew _ _ _ from K5.out) hw' HK5.out) rfl)
  refine Hs.take (v := .pointer (some ⟨w.heap.size, 0, none⟩)) 3 36 rfl ?_ (fun _ _ => rfl)
  refine Hs.take (v := mv (begM 7) none 0) 4 37 rfl ?_ (fun w' hw' => by exact run_loadM (Blk.touch (show Blk w5.drew _ _ _ from K5.out) hw' HK5.out) rfl)
  refine Hs.call (f := 11) (args := #[.pointer (some ⟨w.heap.size, 0, none⟩), mv (begM 7) none 0]) 2 35 rfl ?_ (run_callf Try.func11 (by kernel_rfl) (by kernel_rfl) (by simp only [List.map_toArray, List.map_cons, List.map_nil]; rfl))
  refine (jhear_yes _ w.heap.size F 2 3 4 5 (begM 7) none 0 (Rd.nil _ _ _) (by decide) (by decide) J5.out.drew begM_yes).mono ?_
  rintro e w7 ⟨rfl, ⟨F7, j7, hf7⟩, t7⟩
  have J7 := Lib.hid j7
  have HF7 := Lib.hid hf7
  have T7 := Lib.hid (show Touch F w5 w7 from (Touch.refl F w5).drew.trans t7)
  clear j7 hf7
  refine Hs.back t7 ?_
  refine Hs.call (f := 11) (args := #[.pointer (some ⟨w.heap.size, 0, none⟩), mv (begM 7) none 0]) 5 38 rfl ?_ (run_callf Try.func11 (by kernel_rfl) (by kernel_rfl) (by simp only [List.map_toArray, List.map_cons, List.map_nil]; rfl))
  refine (jhear_no w7 w.heap.size F7 2 3 4 5 (begM 7) none 0 (Rd.nil _ _ _) (by decide) (by decide) (some (begM 7)) J7.out (.inl rfl)).mono ?_
  rintro e w8 ⟨rfl, b8⟩
  have J8 := Lib.hid (J7.out.past b8)
  have T8 := Lib.hid (T7.out.trans (.of_below b8))
  refine Hs.back (.of_below b8) ?_
  refine Hs.take (v := .bool true) 6 7 rfl ?_ (fun _ _ => rfl)
  refine Hs.take (v := .bool false) 7 8 rfl ?_ (fun _ _ => rfl)
  refine Hs.done ?_
-- END
  have S8 := Lib.hid (show Sj w w8 w.heap.size 2 3 4 5 (some (begM 7)) from ⟨S5.out.bel.trans (T8.out.below HFW.out S5.out.bel.size), F7, J8.out, fun k hk => (HF7.out k hk).elim (HFW.out k) (fun h => Nat.le_trans S5.out.bel.size h)⟩)
  clear J5 HFW HK5 J7 HF7 T7 J8 T8 S5 K5
  go_wp2_with fail
  refine S8.out.got_yes.mono ?_
  simp only [mv, begM, List.length_nil]
  rintro e w9 ⟨A', c', rfl, -, b9⟩
  have S9 := S8.out.past b9
  have N9 := Lib.hid (show Blk (w9.alloc (.cells #[.int .i64 0, .int .i64 0, .int .i64 0, .int .i64 0, .int .i64 0, .int .i64 0, .int .i64 0, .int .i64 0, .slice none 0 0, .int .i64 0, .int .i64 0, .int .i64 0, .bool false] 30)) w9.heap.size 30 (mcs zeroM none 0) from Blk.new w9 #[.int .i64 0, .int .i64 0, .int .i64 0, .int .i64 0, .int .i64 0, .int .i64 0, .int .i64 0, .int .i64 0, .slice none 0 0, .int .i64 0, .int .i64 0, .int .i64 0, .bool false] 30)
  have M9 := Lib.hid (show Blk ((w9.alloc (.cells #[.int .i64 0, .int .i64 0, .int .i64 0, .int .i64 0, .int .i64 0, .int .i64 0, .int .i64 0, .int .i64 0, .slice none 0 0, .int .i64 0, .int .i64 0, .int .i64 0, .bool false] 30)).setRow w9.heap.size #[.int .i64 11, .int .i64 1, .int .i64 2, .int .i64 1, .int .i64 7, .int .i64 0, .int .i64 3, .int .i64 0, .slice A' 0 c', .int .i64 0, .int .i64 4, .int .i64 0, .bool true]) w9.heap.size 30 (mcs (begM 7) A' c') from N9.out.row #[.int .i64 11, .int .i64 1, .int .i64 2, .int .i64 1, .int .i64 7, .int .i64 0, .int .i64 3, .int .i64 0, .slice A' 0 c', .int .i64 0, .int .i64 4, .int .i64 0, .bool true])
  have b10 : Below w9.heap.size w9 ((w9.alloc (.cells #[.int .i64 0, .int .i64 0, .int .i64 0, .int .i64 0, .int .i64 0, .int .i64 0, .int .i64 0, .int .i64 0, .slice none 0 0, .int .i64 0, .int .i64 0, .int .i64 0, .bool false] 30)).setRow w9.heap.size #[.int .i64 11, .int .i64 1, .int .i64 2, .int .i64 1, .int .i64 7, .int .i64 0, .int .i64 3, .int .i64 0, .slice A' 0 c', .int .i64 0, .int .i64 4, .int .i64 0, .bool true]) := (((Touch.of_below (S := [w9.heap.size]) ((Below.refl _ _).alloc (Nat.le_refl _) _)).trans (.of_grown (grown_row _ _ _))).below (by simp) (Nat.le_refl _))
  have SA := Lib.hid (S9.past b10)
  clear b9 b10 S9 S8
  go_wp2_with ((with_reducible show wpList _ _ _ ((⟨none, Op.store 30 (.tmp 9) _, _, _, _, _⟩ : Oper) :: _) _ _); go_must (refine wpList_store_row rfl 30 (.tmp 9) (.tmp 42) rfl w9.heap.size _ rfl rfl _ _ N9.out (by kernel_rfl) (by rfl) (by kernel_rfl) ?_))
  clear N9
  obtain ⟨k9, hk9⟩ : ∃ k, w9.heap.size = k := ⟨_, rfl⟩
  rw [hk9] at M9 SA ⊢
  clear hk9
  generalize (w9.alloc (.cells #[.int .i64 0, .int .i64 0, .int .i64 0, .int .i64 0, .int .i64 0, .int .i64 0, .int .i64 0, .int .i64 0, .slice none 0 0, .int .i64 0, .int .i64 0, .int .i64 0, .bool false] 30)).setRow k9 #[.int .i64 11, .int .i64 1, .int .i64 2, .int .i64 1, .int .i64 7, .int .i64 0, .int .i64 3, .int .i64 0, .slice A' 0 c', .int .i64 0, .int .i64 4, .int .i64 0, .bool true] = wa at *
  refine (SA.out.ask (n := 3) (by decide)).mono ?_
  rw [show (asksP 2 4 3).length = 2 by decide]
  rintro e wb ⟨A1, c1, rfl, -, bb⟩
  have SB := Lib.hid (SA.out.past bb)
  have MB := Lib.hid (M9.out.past bb)
  clear bb SA M9
  go_wp2_with fail
  refine (SB.out.ask (n := 3) (by decide)).mono ?_
  rw [show (asksP 2 4 3).length = 2 by decide]
  rintro e wc ⟨A1, c1, rfl, ms, bc⟩
  have SC := Lib.hid (SB.out.past bc)
  have MC := Lib.hid (MB.out.past bc)
  obtain ⟨b, o, q, rfl, -, hq, -, hr, -⟩ := ms.at_ (i := 1) (by decide)
  obtain rfl : (⟨askM 2 4 3, none, 0⟩ : Mp) = q := by simpa [asksP, asks] using hq
  have cc := hr 2 _ rfl
  clear bc ms hq hr SB MB
  go_wp2_with fail
  clear cc
  refine (SC.out.ask (n := 3) (by decide)).mono ?_
  rw [show (asksP 2 4 3).length = 2 by decide]
  rintro e wd ⟨A1, c1, rfl, ms, bd⟩
  have SD := Lib.hid (SC.out.past bd)
  have MD := MC.out.past bd
  obtain ⟨b, o, q, rfl, -, hq, -, hr, -⟩ := ms.at_ (i := 0) (by decide)
  obtain rfl : (⟨askM 2 4 1, none, 0⟩ : Mp) = q := by simpa [asksP, asks] using hq
  have cc := hr 10 _ rfl
  have f4 := MD.cell (i := 4) rfl
  clear bd ms hq hr SC MC MD
  go_wp2_with fail
  go_ret
  exact ⟨rfl, SD.out.bel⟩
end Go.Proofs.Ytnpobagipgephaa
