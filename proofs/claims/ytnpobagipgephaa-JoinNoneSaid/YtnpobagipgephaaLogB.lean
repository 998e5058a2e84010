/- Contracts of the log's Len, At, isEarly, Has, canAdd, Add. -/
import Derived.Test.YtnpobagipgephaaLogA
import Derived.Test.YtnpobagipgephaaEntA
import Derived.Test.YtnpobagipgephaaHeld2
import Derived.Great.BuildSlice
namespace Go.Proofs.Ytnpobagipgephaa
open Go.RowKit

theorem Len_c (w : World) (g : Nat) (F : List Nat) (L : List Ent) (h : Lg w g F L) :
    Calls Try.prog 28 #[.pointer (some ⟨g, 0, none⟩)] w fun x w' => x = .returned (.int .i64 L.length) ∧ w = w' := by
  obtain ⟨A, c, d, -, -⟩ := h.open
  clear h
  go_enter Try.func28, Try.ntmps28
  go_wp2_with fail
  go_ret
  exact ⟨rfl, rfl⟩

set_option maxHeartbeats 4000000 in
set_option maxRecDepth 100000 in
/-- At a place that there is. -/
theorem At_in (w : World) (g : Nat) (F : List Nat) (L : List Ent) (h : Lg w g F L) (i : Nat) (e : Ent) (he : L[i]? = some e) :
    Calls Try.prog 41 #[.pointer (some ⟨g, 0, none⟩), .int .i64 ((i : Int) + 1)] w fun x w' => x = .returned (.tuple #[ev e, .bool true]) ∧ Below w.heap.size w w' := by
  have hlen : i < L.length := (List.getElem?_eq_some_iff.1 he).1
  have h60 := h.le
  have K1 := Lib.hid (h.alloc (.cells #[.int .i64 0, .int .i64 0, .int .i64 0, .int .i64 0, .int .i64 0, .int .i64 0, .string ⟨#[]⟩] 47))
  have HE := Lib.hid he
  have b0 := (Below.refl w.heap.size w).alloc (Nat.le_refl _) (.cells #[.int .i64 0, .int .i64 0, .int .i64 0, .int .i64 0, .int .i64 0, .int .i64 0, .string ⟨#[]⟩] 47)
  have Z := Blk.newEnt w 47 zeroE
  have hZ : Blk (w.alloc (.cells #[.int .i64 0, .int .i64 0, .int .i64 0, .int .i64 0, .int .i64 0, .int .i64 0, .string ⟨#[]⟩] 47)) w.heap.size 47 (ecs zeroE) := Z
  have j1 : ¬ ((i : Int) + 1 < 1) := by omega
  have j2 : ¬ ((L.length : Int) < (i : Int) + 1) := by omega
  have j3 : ((i : Int) + 1 - 1) = (i : Int) := by omega
  clear he h Z
  go_enter Try.func41, Try.ntmps41
  go_wp2_with fail
  refine (Len_c (w.alloc (.cells #[.int .i64 0, .int .i64 0, .int .i64 0, .int .i64 0, .int .i64 0, .int .i64 0, .string ⟨#[]⟩] 47)) g F L K1.out).mono ?_
  rintro x w1 ⟨rfl, rfl⟩
  obtain ⟨A, c, d, R, -⟩ := K1.out.open
  obtain ⟨b, o, x, rfl, hb, he, -, d0, d1, d2, d3, d4, d5, d6⟩ := R.ent hlen
  obtain rfl : e = x := by have := HE.out.symm.trans he; exact Option.some.inj this
  have s1 : (w.alloc (.cells #[.int .i64 0, .int .i64 0, .int .i64 0, .int .i64 0, .int .i64 0, .int .i64 0, .string ⟨#[]⟩] 47)).heap.size = w.heap.size + 1 := by simp
  clear R he HE
  have Zr := hZ.row #[.int .i64 e.fr, .int .i64 e.boot, .int .i64 e.seq, .int .i64 e.ord, .int .i64 e.lev, .int .i64 e.stamp, .string e.data]
  have BR := grown_row (w.alloc (.cells #[.int .i64 0, .int .i64 0, .int .i64 0, .int .i64 0, .int .i64 0, .int .i64 0, .string ⟨#[]⟩] 47)) w.heap.size #[.int .i64 e.fr, .int .i64 e.boot, .int .i64 e.seq, .int .i64 e.ord, .int .i64 e.lev, .int .i64 e.stamp, .string e.data]
  have B2 := Lib.hid (b0.trans (grown_below BR (Nat.le_refl _) b0.size))
  have Z2 := Lib.hid Zr
  clear Zr BR
  go_wp2_with ((with_reducible show wpList _ _ _ ((⟨none, Op.store 47 (.tmp 4) _, _, _, _, _⟩ : Oper) :: _) _ _); go_must (refine wpList_store_row rfl 47 (.tmp 4) _ rfl w.heap.size _ rfl rfl _ _ hZ (by kernel_rfl) (by rfl) (by kernel_rfl) ?_))
  refine bodyPost_ret (v := .tuple #[ev e, .bool true]) (results_rowB (p := 4) (u := 5) rfl _ _ w.heap.size _ _ _ _ rfl rfl Z2.out Try.underlying47 rfl (by kernel_rfl)) rfl ⟨rfl, B2.out⟩

set_option maxHeartbeats 4000000 in
set_option maxRecDepth 100000 in
/-- At no place. -/
theorem At_out (w : World) (g : Nat) (F : List Nat) (L : List Ent) (h : Lg w g F L) (k : Int) (hk : k < 1 ∨ (L.length : Int) < k) :
    Calls Try.prog 41 #[.pointer (some ⟨g, 0, none⟩), .int .i64 k] w fun x w' => x = .returned (.tuple #[ev zeroE, .bool false]) ∧ Below w.heap.size w w' := by
  have K1 := Lib.hid (h.alloc (.cells #[.int .i64 0, .int .i64 0, .int .i64 0, .int .i64 0, .int .i64 0, .int .i64 0, .string ⟨#[]⟩] 47))
  have b0 := (Below.refl w.heap.size w).alloc (Nat.le_refl _) (.cells #[.int .i64 0, .int .i64 0, .int .i64 0, .int .i64 0, .int .i64 0, .int .i64 0, .string ⟨#[]⟩] 47)
  have Z := Blk.newEnt w 47 zeroE
  have hZ : Blk (w.alloc (.cells #[.int .i64 0, .int .i64 0, .int .i64 0, .int .i64 0, .int .i64 0, .int .i64 0, .string ⟨#[]⟩] 47)) w.heap.size 47 (ecs zeroE) := Z
  have Zr := hZ.row #[.int .i64 0, .int .i64 0, .int .i64 0, .int .i64 0, .int .i64 0, .int .i64 0, .string ⟨#[]⟩]
  have BR := grown_row (w.alloc (.cells #[.int .i64 0, .int .i64 0, .int .i64 0, .int .i64 0, .int .i64 0, .int .i64 0, .string ⟨#[]⟩] 47)) w.heap.size #[.int .i64 0, .int .i64 0, .int .i64 0, .int .i64 0, .int .i64 0, .int .i64 0, .string ⟨#[]⟩]
  have B2 := Lib.hid (b0.trans (grown_below BR (Nat.le_refl _) b0.size))
  have Z2 := Lib.hid Zr
  clear h Z Zr BR
  by_cases h1 : k < 1
  · clear hk
    go_enter Try.func41, Try.ntmps41
    go_wp2_with ((with_reducible show wpList _ _ _ ((⟨none, Op.store 47 (.tmp 4) _, _, _, _, _⟩ : Oper) :: _) _ _); go_must (refine wpList_store_row rfl 47 (.tmp 4) _ rfl w.heap.size _ rfl rfl _ _ hZ (by kernel_rfl) (by rfl) (by kernel_rfl) ?_))
    refine bodyPost_ret (v := .tuple #[ev zeroE, .bool false]) (results_rowB (p := 4) (u := 5) rfl _ _ w.heap.size _ _ _ _ rfl rfl Z2.out Try.underlying47 rfl (by kernel_rfl)) rfl ⟨rfl, B2.out⟩
  · have h2 : (L.length : Int) < k := by omega
    clear hk
    go_enter Try.func41, Try.ntmps41
    go_wp2_with fail
    refine (Len_c (w.alloc (.cells #[.int .i64 0, .int .i64 0, .int .i64 0, .int .i64 0, .int .i64 0, .int .i64 0, .string ⟨#[]⟩] 47)) g F L K1.out).mono ?_
    rintro x w1 ⟨rfl, rfl⟩
    go_wp2_with ((with_reducible show wpList _ _ _ ((⟨none, Op.store 47 (.tmp 4) _, _, _, _, _⟩ : Oper) :: _) _ _); go_must (refine wpList_store_row rfl 47 (.tmp 4) _ rfl w.heap.size _ rfl rfl _ _ hZ (by kernel_rfl) (by rfl) (by kernel_rfl) ?_))
    refine bodyPost_ret (v := .tuple #[ev zeroE, .bool false]) (results_rowB (p := 4) (u := 5) rfl _ _ w.heap.size _ _ _ _ rfl rfl Z2.out Try.underlying47 rfl (by kernel_rfl)) rfl ⟨rfl, B2.out⟩

set_option maxHeartbeats 4000000 in
set_option maxRecDepth 100000 in
theorem isEarly_c (w : World) (g : Nat) (F : List Nat) (L : List Ent) (h : Lg w g F L) (e : Ent) :
    Calls Try.prog 38 #[.pointer (some ⟨g, 0, none⟩), ev e] w fun x w' => x = .returned (.bool (PLog.early L e)) ∧ Below w.heap.size w w' := by
  have b0 := (Below.refl w.heap.size w).alloc (Nat.le_refl _) (.cells #[.int .i64 e.fr, .int .i64 e.boot, .int .i64 e.seq, .int .i64 e.ord, .int .i64 e.lev, .int .i64 e.stamp, .string e.data] 47)
  have K := Blk.newEnt w 47 e
  have H1 := h.alloc (.cells #[.int .i64 e.fr, .int .i64 e.boot, .int .i64 e.seq, .int .i64 e.ord, .int .i64 e.lev, .int .i64 e.stamp, .string e.data] 47)
  obtain ⟨A, c, d, -, -⟩ := H1.open
  clear h
  show Calls _ _ #[_, .agg #[.int .i64 e.fr, .int .i64 e.boot, .int .i64 e.seq, .int .i64 e.ord, .int .i64 e.lev, .int .i64 e.stamp, .string e.data]] _ _
  go_enter Try.func38, Try.ntmps38
  go_wp2_with fail
  generalize (w.alloc (.cells #[.int .i64 e.fr, .int .i64 e.boot, .int .i64 e.seq, .int .i64 e.ord, .int .i64 e.lev, .int .i64 e.stamp, .string e.data] 47)) = w1 at *
  have B1 := Lib.hid b0
  have K1 := Lib.hid K
  have HL := Lib.hid H1
  clear d b0 K H1
  by_cases hn : L.length = 0
  · have e0 : L = [] := List.eq_nil_of_length_eq_zero hn
    subst e0
    refine (At_out w1 g F [] HL.out _ (by simp)).mono ?_
    rintro x w2 ⟨rfl, b2⟩
    have b3 : Below w1.heap.size w1 (w2.alloc (.cells #[.int .i64 0, .int .i64 0, .int .i64 0, .int .i64 0, .int .i64 0, .int .i64 0, .string ⟨#[]⟩] 47)) := b2.alloc b2.size _
    simp only [ev, zeroE]
    go_wp2_with fail
    go_ret
    exact ⟨rfl, B1.out.trans (b3.mono B1.out.size)⟩
  · obtain ⟨i, hi⟩ : ∃ i, L.length = i + 1 := ⟨L.length - 1, by omega⟩
    obtain ⟨y, hy⟩ : ∃ y, L[i]? = some y := ⟨L[i], List.getElem?_eq_getElem (by omega)⟩
    have HE := Lib.hid (show PLog.early L e = decide (e.stamp < y.stamp) by
      unfold PLog.early
      rw [List.getLast?_eq_getElem?, hi, Nat.add_sub_cancel, hy])
    rw [hi]
    refine (show Calls Try.prog _ #[_, .int .i64 ((i + 1 : Nat) : Int)] w1 _ from (Int.natCast_succ i ▸ At_in w1 g F L HL.out i y hy)).mono ?_
    clear hy hi hn
    rintro x w2 ⟨rfl, b2⟩
    have b3 : Below w1.heap.size w1 (w2.alloc (.cells #[.int .i64 y.fr, .int .i64 y.boot, .int .i64 y.seq, .int .i64 y.ord, .int .i64 y.lev, .int .i64 y.stamp, .string y.data] 47)) := b2.alloc b2.size _
    have K2 := (K1.out.past b2).alloc (.cells #[.int .i64 y.fr, .int .i64 y.boot, .int .i64 y.seq, .int .i64 y.ord, .int .i64 y.lev, .int .i64 y.stamp, .string y.data] 47)
    have Ky := Blk.newEnt w2 47 y
    have c1 := K2.cell (i := 5) rfl
    have c2 := Ky.cell (i := 5) rfl
    clear K2 Ky b2
    simp only [ev]
    have B3 := Lib.hid (B1.out.trans (b3.mono B1.out.size))
    clear b3
    by_cases hs : e.stamp < y.stamp
    · have HF := Lib.hid (HE.out.trans (decide_eq_true hs))
      go_wp2_with fail
      go_ret
      exact ⟨by rw [HF.out]; rfl, B3.out⟩
    · have HF := Lib.hid (HE.out.trans (decide_eq_false hs))
      go_wp2_with fail
      go_ret
      exact ⟨by rw [HF.out]; rfl, B3.out⟩

set_option maxHeartbeats 4000000 in
set_option maxRecDepth 100000 in
theorem Has_c (w : World) (g : Nat) (F : List Nat) (L : List Ent) (h : Lg w g F L) (e : Ent) :
    Calls Try.prog 39 #[.pointer (some ⟨g, 0, none⟩), ev e] w fun x w' => x = .returned (.bool (PLog.has L e)) ∧ Below w.heap.size w w' := by
  have b0 := (Below.refl w.heap.size w).alloc (Nat.le_refl _) (.cells #[.int .i64 e.fr, .int .i64 e.boot, .int .i64 e.seq, .int .i64 e.ord, .int .i64 e.lev, .int .i64 e.stamp, .string e.data] 47)
  have K := Blk.newEnt w 47 e
  have H1 := h.alloc (.cells #[.int .i64 e.fr, .int .i64 e.boot, .int .i64 e.seq, .int .i64 e.ord, .int .i64 e.lev, .int .i64 e.stamp, .string e.data] 47)
  obtain ⟨A, c, d, R, -⟩ := H1.open
  have eg : ∀ args w, (callFunc 43 args).run Try.prog w = .ok (.enter 43 args) w := enters_of Try.func43 (by kernel_rfl) rfl
  clear h H1
  show Calls _ _ #[_, .agg #[.int .i64 e.fr, .int .i64 e.boot, .int .i64 e.seq, .int .i64 e.ord, .int .i64 e.lev, .int .i64 e.stamp, .string e.data]] _ _
  go_enter Try.func39, Try.ntmps39
  go_wp2_with fail
  generalize (w.alloc (.cells #[.int .i64 e.fr, .int .i64 e.boot, .int .i64 e.seq, .int .i64 e.ord, .int .i64 e.lev, .int .i64 e.stamp, .string e.data] 47)) = w1 at *
  have B1 := Lib.hid b0
  have K1 := Lib.hid K
  have R1 := Lib.hid R
  clear d b0 K R
  refine (containsE_c w1 _ A c L.length L R1.out 43 #[.pointer (some ⟨w.heap.size, 0, none⟩)] (fun x => PEnt.same x e) eg (fun W x hb => hasClose_c W w.heap.size x e (K1.out.past hb))).mono ?_
  rintro x w2 ⟨rfl, b2⟩
  go_wp2_with fail
  go_ret
  exact ⟨rfl, B1.out.trans (b2.mono B1.out.size)⟩

set_option maxHeartbeats 4000000 in
set_option maxRecDepth 100000 in
theorem canAdd_c (w : World) (g : Nat) (F : List Nat) (L : List Ent) (h : Lg w g F L) (e : Ent) :
    Calls Try.prog 34 #[.pointer (some ⟨g, 0, none⟩), ev e] w fun x w' => x = .returned (.bool (PLog.can L e)) ∧ Below w.heap.size w w' := by
  have b0 := (Below.refl w.heap.size w).alloc (Nat.le_refl _) (.cells #[.int .i64 e.fr, .int .i64 e.boot, .int .i64 e.seq, .int .i64 e.ord, .int .i64 e.lev, .int .i64 e.stamp, .string e.data] 47)
  have K := Blk.newEnt w 47 e
  have H1 := h.alloc (.cells #[.int .i64 e.fr, .int .i64 e.boot, .int .i64 e.seq, .int .i64 e.ord, .int .i64 e.lev, .int .i64 e.stamp, .string e.data] 47)
  have HC := Lib.hid (show PLog.can L e = (PEnt.may e && decide (L.length < 60) && !PLog.early L e && !PLog.has L e) from rfl)
  clear h
  show Calls _ _ #[_, .agg #[.int .i64 e.fr, .int .i64 e.boot, .int .i64 e.seq, .int .i64 e.ord, .int .i64 e.lev, .int .i64 e.stamp, .string e.data]] _ _
  go_enter Try.func34, Try.ntmps34
  go_wp2_with fail
  generalize (w.alloc (.cells #[.int .i64 e.fr, .int .i64 e.boot, .int .i64 e.seq, .int .i64 e.ord, .int .i64 e.lev, .int .i64 e.stamp, .string e.data] 47)) = w1 at *
  have B1 := Lib.hid b0
  have K1 := Lib.hid K
  have L1 := Lib.hid H1
  clear b0 K H1
  refine (May_c w1 e).mono ?_
  cases h1 : PEnt.may e
  · have HR := Lib.hid (show PLog.can L e = false by rw [HC.out, h1]; simp)
    clear h1
    rintro x w2 ⟨rfl, b2⟩
    go_wp2_with fail
    go_ret
    exact ⟨by rw [HR.out]; rfl, B1.out.trans (b2.mono B1.out.size)⟩
  rintro x w2 ⟨rfl, b2⟩
  have B2 := Lib.hid (B1.out.trans (b2.mono B1.out.size))
  have L2 := Lib.hid (L1.out.past b2)
  have K2 := Lib.hid (K1.out.past b2)
  have HC1 := Lib.hid (show PLog.can L e = (decide (L.length < 60) && !PLog.early L e && !PLog.has L e) by rw [HC.out, h1]; simp)
  clear b2 B1 L1 K1 HC h1
  obtain ⟨A, c, d, -, -⟩ := L2.out.open
  obtain ⟨d0, d1, d2, d3, d4, d5, d6⟩ := K2.out.ent
  by_cases h2 : L.length < 60
  · have HC2 := Lib.hid (show PLog.can L e = (!PLog.early L e && !PLog.has L e) by rw [HC1.out, decide_eq_true h2]; simp)
    have j2 : (L.length : Int) < 60 := by omega
    clear HC1 h2
    go_wp2_with fail
    clear d d0 d1 d2 d3 d4 d5 d6
    refine (isEarly_c w2 g F L L2.out e).mono ?_
    cases h3 : PLog.early L e
    · have HC3 := Lib.hid (show PLog.can L e = (!PLog.has L e) by rw [HC2.out, h3]; simp)
      clear h3 HC2
      rintro x w3 ⟨rfl, b3⟩
      have B3 := Lib.hid (B2.out.trans (b3.mono B2.out.size))
      have L3 := Lib.hid (L2.out.past b3)
      have K3 := Lib.hid (K2.out.past b3)
      clear b3 B2 L2 K2
      obtain ⟨d0, d1, d2, d3, d4, d5, d6⟩ := K3.out.ent
      go_wp2_with fail
      clear d0 d1 d2 d3 d4 d5 d6
      refine (Has_c w3 g F L L3.out e).mono ?_
      cases h4 : PLog.has L e
      · have HR := Lib.hid (HC3.out.trans (by rw [h4]))
        clear h4
        rintro x w4 ⟨rfl, b4⟩
        go_wp2_with fail
        go_ret
        exact ⟨by rw [HR.out]; rfl, B3.out.trans (b4.mono B3.out.size)⟩
      · have HR := Lib.hid (HC3.out.trans (by rw [h4]))
        clear h4
        rintro x w4 ⟨rfl, b4⟩
        go_wp2_with fail
        go_ret
        exact ⟨by rw [HR.out]; rfl, B3.out.trans (b4.mono B3.out.size)⟩
    · have HR := Lib.hid (show PLog.can L e = false by rw [HC2.out, h3]; simp)
      clear h3
      rintro x w3 ⟨rfl, b3⟩
      go_wp2_with fail
      go_ret
      exact ⟨by rw [HR.out]; rfl, B2.out.trans (b3.mono B2.out.size)⟩
  · have HR := Lib.hid (show PLog.can L e = false by rw [HC1.out, decide_eq_false h2]; simp)
    have j2 : ¬ (L.length : Int) < 60 := by omega
    clear h2 d0 d1 d2 d3 d4 d5 d6
    go_wp2_with fail
    go_ret
    exact ⟨by rw [HR.out]; rfl, B2.out⟩

set_option maxHeartbeats 8000000 in
set_option maxRecDepth 100000 in
theorem Add_c (w : World) (g : Nat) (F : List Nat) (L : List Ent) (h : Lg w g F L) (e : Ent) :
    Calls Try.prog 32 #[.pointer (some ⟨g, 0, none⟩), ev e] w fun x w' => x = .returned (.bool (PLog.can L e)) ∧ Went w w' g F (PLog.add L e) := by
  have b0 := (Below.refl w.heap.size w).alloc (Nat.le_refl _) (.cells #[.int .i64 e.fr, .int .i64 e.boot, .int .i64 e.seq, .int .i64 e.ord, .int .i64 e.lev, .int .i64 e.stamp, .string e.data] 47)
  have K := Blk.newEnt w 47 e
  have H1 := h.alloc (.cells #[.int .i64 e.fr, .int .i64 e.boot, .int .i64 e.seq, .int .i64 e.ord, .int .i64 e.lev, .int .i64 e.stamp, .string e.data] 47)
  have H0 := Lib.hid h
  clear h
  show Calls _ _ #[_, .agg #[.int .i64 e.fr, .int .i64 e.boot, .int .i64 e.seq, .int .i64 e.ord, .int .i64 e.lev, .int .i64 e.stamp, .string e.data]] _ _
  go_enter Try.func32, Try.ntmps32
  go_wp2_with fail
  generalize (w.alloc (.cells #[.int .i64 e.fr, .int .i64 e.boot, .int .i64 e.seq, .int .i64 e.ord, .int .i64 e.lev, .int .i64 e.stamp, .string e.data] 47)) = w1 at *
  have B1 := Lib.hid b0
  have K1 := Lib.hid K
  have L1 := Lib.hid H1
  clear b0 K H1
  refine (canAdd_c w1 g F L L1.out e).mono ?_
  cases hc : PLog.can L e
  · have HADD := Lib.hid (show PLog.add L e = L by unfold PLog.add; rw [hc]; rfl)
    have HQ := Lib.hid hc
    clear hc
    rintro x w2 ⟨rfl, b2⟩
    have B2 := Lib.hid (B1.out.trans (b2.mono B1.out.size))
    clear b2
    go_wp2_with fail
    go_ret
    exact ⟨by rw [HQ.out]; rfl, by rw [HADD.out]; exact Went.same H0.out B2.out⟩
  have HADD := Lib.hid (show PLog.add L e = L ++ [e] by unfold PLog.add; rw [hc]; rfl)
  have HL60 := Lib.hid (PLog.can_lt hc)
  have HQ := Lib.hid hc
  clear hc
  rintro x w3 ⟨rfl, b2⟩
  have B3 := Lib.hid (show Below w.heap.size w w3.drew from (B1.out.trans (b2.mono B1.out.size)).drew)
  have L3 := L1.out.past b2
  have K3 := K1.out.past b2
  obtain ⟨A, c, hB, hO, rfl⟩ := L3.ex
  clear b2 B1 K1 L1 L3 H0
  go_wp2_with fail
  have HD := Lib.hid (show w3.drew.cell? ⟨g, 0, none⟩ = some (.slice A L.length c) from hB.cell (i := 0) rfl)
  have HK := Lib.hid (show w3.drew.rangeAt w.heap.size 0 (ecs e) from K3.range)
  have HBA := Lib.hid (show Below w3.drew.heap.size w3.drew (w3.drew.alloc (.cells (ecs e).toArray 47)) from (Below.refl _ _).alloc (Nat.le_refl _) _)
  have HB := Lib.hid (show Blk (w3.drew.alloc (.cells (ecs e).toArray 47)) g 56 [.slice A L.length c] from Blk.alloc (w := w3.drew) hB _)
  have HO := Lib.hid (show Ow (w3.drew.alloc (.cells (ecs e).toArray 47)) 0 47 7 A L.length c (els L) from Ow.past (w := w3.drew) hO HBA.out)
  have HG := Lib.hid (show bk A ≠ some g from hO.ne hB (by decide))
  have HD2 := Lib.hid (HB.out.cell (i := 0) rfl)
  have HN := Lib.hid (Rd.new w3.drew (ecs e).toArray 47 7 1 rfl (by unfold maxLen; omega))
  clear hB hO K3
  refine Hb.beginB (B := 0) ?_
  refine Hb.take (v := .pointer (some ⟨g, 0, none⟩)) 0 13 rfl ?_ (fun _ _ => rfl)
  refine Hb.take (v := .pointer (some ⟨g, 0, none⟩)) 1 14 rfl ?_ (fun _ _ => rfl)
  refine Hb.take (v := .pointer (some ⟨g, 0, none⟩)) 2 15 rfl ?_ (fun w' hw' => by go_simp)
  refine Hb.take (v := .pointer (some ⟨g, 0, none⟩)) 3 16 rfl ?_ (fun w' hw' => by go_simp)
  refine Hb.two 4 5 ?_ ?_
  · refine Hb.pick 4 (some 17) rfl ?_
    refine wpList_runTo' rfl (.slice A L.length c) _ (run_load1 HD.out rfl) ?_
    refine Hb.next (B' := 0) (Below.refl _ _) (Nat.le_refl _) ?_
    refine Hb.only 5 (some 18) rfl ?_
    refine wpList_runTo' rfl (ev e) _ (run_loadE HK.out rfl) ?_
    refine Hb.next (B' := 0) (Below.refl _ _) (Nat.le_refl _) ?_
    refine Hb.only 6 (some 19) rfl ?_
    refine wpList_buildE rfl (.tmp 18) rfl e rfl ?_
    refine Hb.next (B' := 0) (HBA.out.mono (Nat.zero_le _)) (Nat.le_refl _) ?_ (by simp only [Act.put, List.setIfInBounds_toArray, List.set_cons_succ, List.set_cons_zero]; rfl)
    refine Hb.only 7 (some 20) rfl ?_
    refine wpList_app2 rfl (.tmp 17) (.tmp 19) 28 rfl 0 47 _ 7 64 Try.underlying28 ent_info rfl (by omega) A L.length c (els L) rfl HO.out _ _ 1 1 (ecs e) rfl HN.out (ecs_one e) (by have := HL60.out; unfold maxLen; omega) (by have := HL60.out; omega) (Nat.zero_le _) ?_
    intro A2 c2 w5 O5 g5 h5
    refine Hb.next (B' := 0) (grown0 g5) (Nat.le_refl _) ?_ (by simp only [Act.put, List.setIfInBounds_toArray, List.set_cons_succ, List.set_cons_zero]; rfl)
    have K5 : Blk w5 g 56 [.slice A L.length c] := HB.out.touch (Touch.of_bk g5) (fun hm => HG.out (mem_bl.1 hm))
    have W5 := Lib.hid (Lg.app HB.out HO.out HL60.out g5 h5 O5)
    clear O5 h5
    refine Hb.take (v := .pointer (some ⟨g, 0, none⟩)) 8 21 rfl ?_ (fun w' hw' => by go_simp)
    refine Hb.take (v := .pointer (some ⟨g, 0, none⟩)) 9 22 rfl ?_ (fun w' hw' => by go_simp)
    refine Hb.only 10 none rfl ?_
    refine wpList_store_oneTo rfl 28 (.tmp 22) (.tmp 20) rfl rfl g (.slice A2 (L.length + 1) c2) rfl rfl rfl 56 _ K5 (by kernel_rfl) ?_
    refine Hb.next (B' := 0) (grown0 (grown_row w5 g _)) (Nat.le_refl _) ?_ rfl
    refine Hb.done ?_
    clear K5 g5
    go_wp2_with fail
    go_ret
    exact ⟨by rw [HQ.out]; rfl, by rw [HADD.out]; exact (W5.out.behind HBA.out).behind B3.out⟩
  · refine Hb.pick 5 (some 18) rfl ?_
    refine wpList_runTo' rfl (ev e) _ (run_loadE HK.out rfl) ?_
    refine Hb.next (B' := 0) (Below.refl _ _) (Nat.le_refl _) ?_
    refine Hb.two 4 6 ?_ ?_
    · refine Hb.pick 4 (some 17) rfl ?_
      refine wpList_runTo' rfl (.slice A L.length c) _ (run_load1 HD.out rfl) ?_
      refine Hb.next (B' := 0) (Below.refl _ _) (Nat.le_refl _) ?_
      refine Hb.only 6 (some 19) rfl ?_
      refine wpList_buildE rfl (.tmp 18) rfl e rfl ?_
      refine Hb.next (B' := 0) (HBA.out.mono (Nat.zero_le _)) (Nat.le_refl _) ?_ (by simp only [Act.put, List.setIfInBounds_toArray, List.set_cons_succ, List.set_cons_zero]; rfl)
      refine Hb.only 7 (some 20) rfl ?_
      refine wpList_app2 rfl (.tmp 17) (.tmp 19) 28 rfl 0 47 _ 7 64 Try.underlying28 ent_info rfl (by omega) A L.length c (els L) rfl HO.out _ _ 1 1 (ecs e) rfl HN.out (ecs_one e) (by have := HL60.out; unfold maxLen; omega) (by have := HL60.out; omega) (Nat.zero_le _) ?_
      intro A2 c2 w5 O5 g5 h5
      refine Hb.next (B' := 0) (grown0 g5) (Nat.le_refl _) ?_ (by simp only [Act.put, List.setIfInBounds_toArray, List.set_cons_succ, List.set_cons_zero]; rfl)
      have K5 : Blk w5 g 56 [.slice A L.length c] := HB.out.touch (Touch.of_bk g5) (fun hm => HG.out (mem_bl.1 hm))
      have W5 := Lib.hid (Lg.app HB.out HO.out HL60.out g5 h5 O5)
      clear O5 h5
      refine Hb.take (v := .pointer (some ⟨g, 0, none⟩)) 8 21 rfl ?_ (fun w' hw' => by go_simp)
      refine Hb.take (v := .pointer (some ⟨g, 0, none⟩)) 9 22 rfl ?_ (fun w' hw' => by go_simp)
      refine Hb.only 10 none rfl ?_
      refine wpList_store_oneTo rfl 28 (.tmp 22) (.tmp 20) rfl rfl g (.slice A2 (L.length + 1) c2) rfl rfl rfl 56 _ K5 (by kernel_rfl) ?_
      refine Hb.next (B' := 0) (grown0 (grown_row w5 g _)) (Nat.le_refl _) ?_ rfl
      refine Hb.done ?_
      clear K5 g5
      go_wp2_with fail
      go_ret
      exact ⟨by rw [HQ.out]; rfl, by rw [HADD.out]; exact (W5.out.behind HBA.out).behind B3.out⟩
    · refine Hb.pick 6 (some 19) rfl ?_
      refine wpList_buildE rfl (.tmp 18) rfl e rfl ?_
      refine Hb.next (B' := 0) (HBA.out.mono (Nat.zero_le _)) (Nat.le_refl _) ?_ (by simp only [Act.put, List.setIfInBounds_toArray, List.set_cons_succ, List.set_cons_zero]; rfl)
      refine Hb.only 4 (some 17) rfl ?_
      refine wpList_runTo' rfl (.slice A L.length c) _ (run_load1 HD2.out rfl) ?_
      refine Hb.next (B' := 0) (Below.refl _ _) (Nat.le_refl _) ?_
      refine Hb.only 7 (some 20) rfl ?_
      refine wpList_app2 rfl (.tmp 17) (.tmp 19) 28 rfl 0 47 _ 7 64 Try.underlying28 ent_info rfl (by omega) A L.length c (els L) rfl HO.out _ _ 1 1 (ecs e) rfl HN.out (ecs_one e) (by have := HL60.out; unfold maxLen; omega) (by have := HL60.out; omega) (Nat.zero_le _) ?_
      intro A2 c2 w5 O5 g5 h5
      refine Hb.next (B' := 0) (grown0 g5) (Nat.le_refl _) ?_ (by simp only [Act.put, List.setIfInBounds_toArray, List.set_cons_succ, List.set_cons_zero]; rfl)
      have K5 : Blk w5 g 56 [.slice A L.length c] := HB.out.touch (Touch.of_bk g5) (fun hm => HG.out (mem_bl.1 hm))
      have W5 := Lib.hid (Lg.app HB.out HO.out HL60.out g5 h5 O5)
      clear O5 h5
      refine Hb.take (v := .pointer (some ⟨g, 0, none⟩)) 8 21 rfl ?_ (fun w' hw' => by go_simp)
      refine Hb.take (v := .pointer (some ⟨g, 0, none⟩)) 9 22 rfl ?_ (fun w' hw' => by go_simp)
      refine Hb.only 10 none rfl ?_
      refine wpList_store_oneTo rfl 28 (.tmp 22) (.tmp 20) rfl rfl g (.slice A2 (L.length + 1) c2) rfl rfl rfl 56 _ K5 (by kernel_rfl) ?_
      refine Hb.next (B' := 0) (grown0 (grown_row w5 g _)) (Nat.le_refl _) ?_ rfl
      refine Hb.done ?_
      clear K5 g5
      go_wp2_with fail
      go_ret
      exact ⟨by rw [HQ.out]; rfl, by rw [HADD.out]; exact (W5.out.behind HBA.out).behind B3.out⟩
end Go.Proofs.Ytnpobagipgephaa
