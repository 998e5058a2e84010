/- Contracts of package proof: New, Ask, Get, Left, Good, Drop. -/
import Derived.Test.YtfppngeldlpjiaaPrf
import Derived.Test.YtfppngeldlpjiaaHeldT
import Derived.BigRegion
import Derived.Deep.RegionWith
import Derived.Tactics2
namespace Go.Proofs.Ytfppngeldlpjiaa
open Go.RowKit PProof

theorem place_c (w : World) (n : Int) (h0 : 0 ≤ n) (h1 : n ≤ 2199023255552) : Calls Try.prog 20 #[.int .i64 n] w fun e w' => e = .returned (.int .u64 (pl n : Nat)) ∧ w = w' := by
  have H := Lib.hid (show ((pl n : Nat) : Int) = n % 64 by unfold pl; omega)
  have H2 := Lib.hid (show n.tmod 64 = n % 64 from Int.tmod_eq_emod_of_nonneg h0)
  go_enter Try.func20, Try.ntmps20
  go_wp2_with fail
  go_ret
  refine ⟨?_, rfl⟩
  rw [H.out]
  first | rfl | rw [← H2.out]

/-- A proof's cells, all zero. -/
def pz : List Value := pcs 0 0 (List.replicate 64 0) false 0 0
theorem pz_ne : (pz.toArray = #[]) = False := by simp [pz, pcs]
theorem pz_sz : (pz.toArray.size < 2) = False := by simp [pz, pcs, is]
theorem pz_set (b : Int) : (pz.toArray.setIfInBounds 0 (.int .i64 b)).setIfInBounds 1 (.int .i64 b) = (pcs b b (List.replicate 64 0) false 0 0).toArray := by
  rw [List.setIfInBounds_toArray, List.setIfInBounds_toArray]; rfl
theorem prf_zero (w : World) : (zeroValue 43).run Try.prog w = .ok (.agg pz.toArray) w := by
  have : (Try.prog.info? 43).map (·.zero) = some (some (.agg pz.toArray)) := by kernel_rfl
  cases hq : Try.prog.info? 43 with
  | none => simp [hq] at this
  | some i =>
    simp [hq] at this
    simp [zeroValue, typeInfo, hq, this]
theorem pnew_c (w : World) (b : Int) : Calls Try.prog 10 #[.int .i64 b] w fun e w' => e = .returned (.pointer (some ⟨w.heap.size, 0, none⟩)) ∧ Pf w' w.heap.size b b (List.replicate 64 0) false 0 0 ∧ Below w.heap.size w w' := by
  have hz := prf_zero
  have hn := pz_ne
  have hs := pz_set
  have hq := pz_sz
  go_enter Try.func10, Try.ntmps10
  go_wp2_with fail
  go_ret
  exact ⟨rfl, Blk.new w _ _, (Below.refl _ _).alloc (Nat.le_refl _) _⟩

theorem pask_nil (w : World) (x : Int) : Calls Try.prog 11 #[.pointer none, .int .i64 x] w fun e w' => e = .returned (.int .i64 0) ∧ w = w' := by
  go_enter Try.func11, Try.ntmps11
  go_wp2_with fail
  go_ret
  exact ⟨rfl, rfl⟩
theorem pget_nil (w : World) (x c : Int) : Calls Try.prog 13 #[.pointer none, .int .i64 x, .int .i64 c] w fun e w' => e = .returned (.bool false) ∧ w = w' := by
  go_enter Try.func13, Try.ntmps13
  go_wp2_with fail
  go_ret
  exact ⟨rfl, rfl⟩
theorem pleft_nil (w : World) (x c : Int) : Calls Try.prog 17 #[.pointer none, .int .i64 x, .int .i64 c] w fun e w' => e = .returned (.int .i64 0) ∧ w = w' := by
  go_enter Try.func17, Try.ntmps17
  go_wp2_with fail
  go_ret
  exact ⟨rfl, rfl⟩
theorem pgood_nil (w : World) (x c : Int) : Calls Try.prog 19 #[.pointer none, .int .i64 x, .int .i64 c] w fun e w' => e = .returned (.bool false) ∧ w = w' := by
  go_enter Try.func19, Try.ntmps19
  go_wp2_with fail
  refine (pleft_nil w x c).mono ?_
  rintro e w' ⟨rfl, rfl⟩
  go_wp2_with fail
  go_ret
  exact ⟨rfl, rfl⟩
theorem pdrop_nil (w : World) : Calls Try.prog 15 #[.pointer none] w fun e w' => e = .returned (.tuple #[]) ∧ w = w' := by
  go_enter Try.func15, Try.ntmps15
  go_wp2_with fail
  (try simp only [Exit.inBlock, Exit.then])
  refine bodyPost_ret (results_none rfl _ _ _) rfl ?_
  exact ⟨rfl, rfl⟩

section
variable (w : World) (g : Nat) (last cl : Int) (A : List Int) (p : Bool) (ck cm : Int)
set_option maxRecDepth 100000 in
theorem pask_c (h : Pf w g last cl A p ck cm) (hk : Ok last cl A ck) (x : Int) (hx : 0 ≤ x ∧ x ≤ 2199023255552) (hl : last < 2199023255552) :
    Calls Try.prog 11 #[.pointer (some ⟨g, 0, none⟩), .int .i64 x] w fun e w' => e = .returned (.int .i64 (last + 1)) ∧ Pf w' g (last + 1) cl (askA A last x) p ck cm ∧ Ok (last + 1) cl (askA A last x) ck ∧ Touch [g] w w' := by
  have c0 := Blk.cell h pcs_last
  have f0 := Blk.free h 0
  have hl0 : 0 ≤ last := by have := hk.c0; have := hk.cl; omega
  have S1 := Lib.hid (show Pf (w.setCell ⟨g, 0, none⟩ (.int .i64 (last + 1))) g (last + 1) cl A p ck cm from Blk.set h 0 (.int .i64 (last + 1)))
  have T1 := Lib.hid (show Touch [g] w (w.setCell ⟨g, 0, none⟩ (.int .i64 (last + 1))) from (Touch.refl [g] w).cell (List.mem_singleton.2 rfl) _ _)
  have K1 := Lib.hid (hk.ask hx hl)
  have HL := Lib.hid hk.len
  clear h hk hx
  go_enter Try.func11, Try.ntmps11
  go_wp2_with fail
  clear c0 f0
  generalize w.setCell ⟨g, 0, none⟩ (.int .i64 (last + 1)) = w1 at *
  have hk6 := pl_lt (last + 1)
  have HP := Lib.hid (show askA A last x = A.set (pl (last + 1)) x from rfl)
  have PC := Lib.hid (fun w => place_c w (last + 1) (by omega) (by omega))
  obtain ⟨k, hkk⟩ : ∃ k, pl (last + 1) = k := ⟨_, rfl⟩
  rw [hkk] at hk6 HP PC
  clear hkk
  have c0 := Blk.cell S1.out pcs_last
  have c2 := Blk.cell S1.out (pcs_a HL.out hk6)
  have f2 := Blk.free S1.out (2 + k)
  generalize A.getD k 0 = v at c2
  go_region_with (go_at_call 20; refine (PC.out _).mono ?_; rintro e w2 ⟨rfl, rfl⟩)
  have S2 := Lib.hid (show Pf (w1.setCell ⟨g, 2 + k, none⟩ (.int .i64 x)).drew g (last + 1) cl (A.set k x) p ck cm by
    have := Blk.set S1.out (2 + k) (.int .i64 x)
    rw [pset_a HL.out hk6] at this
    exact this)
  have T2 := Lib.hid (show Touch [g] w (w1.setCell ⟨g, 2 + k, none⟩ (.int .i64 x)).drew from (T1.out.cell (List.mem_singleton.2 rfl) _ _).drew)
  clear c0 c2 f2
  generalize (w1.setCell ⟨g, 2 + k, none⟩ (.int .i64 x)).drew = w2 at *
  have c0 := Blk.cell S2.out pcs_last
  go_wp2_with fail
  go_ret
  rw [HP.out]
  exact ⟨rfl, S2.out, by rw [← HP.out]; exact K1.out, T2.out⟩

theorem popn_c (h : Pf w g last cl A p ck cm) (hk : Ok last cl A ck) (x : Int) : Calls Try.prog 21 #[.pointer (some ⟨g, 0, none⟩), .int .i64 x] w fun e w' => e = .returned (.bool (opn last cl x)) ∧ w = w' := by
  have c0 := Blk.cell h pcs_last
  have c1 := Blk.cell h pcs_cl
  have h0 := hk.c0
  have h1 := hk.cl
  have h2 := hk.l1
  clear h hk
  rcases (by omega : x ≤ cl ∨ (cl < x ∧ last < x) ∨ (cl < x ∧ x ≤ last)) with k | ⟨k, k2⟩ | ⟨k, k2⟩
  · have H := Lib.hid (show opn last cl x = false from decide_eq_false (by omega))
    go_enter Try.func21, Try.ntmps21
    go_wp2_with fail
    go_ret
    exact ⟨by rw [H.out]; rfl, rfl⟩
  · have H := Lib.hid (show opn last cl x = false from decide_eq_false (by omega))
    go_enter Try.func21, Try.ntmps21
    go_wp2_with fail
    go_ret
    exact ⟨by rw [H.out]; rfl, rfl⟩
  · by_cases k3 : last - x < 64
    · have H := Lib.hid (show opn last cl x = true from decide_eq_true (by omega))
      go_enter Try.func21, Try.ntmps21
      go_wp2_with fail
      go_ret
      exact ⟨by rw [H.out]; rfl, rfl⟩
    · have H := Lib.hid (show opn last cl x = false from decide_eq_false (by omega))
      go_enter Try.func21, Try.ntmps21
      go_wp2_with fail
      go_ret
      exact ⟨by rw [H.out]; rfl, rfl⟩
theorem pget_no (h : Pf w g last cl A p ck cm) (hk : Ok last cl A ck) (x c : Int) (ho : opn last cl x = false) : Calls Try.prog 13 #[.pointer (some ⟨g, 0, none⟩), .int .i64 x, .int .i64 c] w fun e w' => e = .returned (.bool false) ∧ w = w' := by
  have HO := Lib.hid ho
  clear ho
  go_enter Try.func13, Try.ntmps13
  go_wp2_with fail
  refine (popn_c w g last cl A p ck cm h hk x).mono ?_
  rw [HO.out]
  rintro e w' ⟨rfl, rfl⟩
  go_wp2_with fail
  go_ret
  exact ⟨rfl, rfl⟩
set_option maxRecDepth 100000 in
theorem pget_yes (h : Pf w g last cl A p ck cm) (hk : Ok last cl A ck) (x c : Int) (ho : opn last cl x = true) :
    Calls Try.prog 13 #[.pointer (some ⟨g, 0, none⟩), .int .i64 x, .int .i64 c] w fun e w' => e = .returned (.bool true) ∧ Pf w' g last x A true (tm A x) c ∧ Ok last x A (tm A x) ∧ Touch [g] w w' := by
  have HO := Lib.hid ho
  have HK := Lib.hid hk
  have HS := Lib.hid h
  have KG := Lib.hid (hk.get ho)
  have hx0 : 0 ≤ x ∧ x ≤ 2199023255552 := by have := of_decide_eq_true ho; have := hk.c0; have := hk.l1; omega
  have hk6 := pl_lt x
  have PC := Lib.hid (fun w => place_c w x hx0.1 hx0.2)
  have HT := Lib.hid (show A.getD (pl x) 0 = tm A x from rfl)
  obtain ⟨k, hkk⟩ : ∃ k, pl x = k := ⟨_, rfl⟩
  rw [hkk] at hk6 PC HT
  clear hkk ho h hk hx0
  have c2 := Blk.cell HS.out (pcs_a HK.out.len hk6)
  rw [HT.out] at c2
  obtain ⟨v, hv⟩ : ∃ v, tm A x = v := ⟨_, rfl⟩
  rw [hv] at c2 KG ⊢
  clear hv HT
  go_enter Try.func13, Try.ntmps13
  go_wp2_with fail
  refine (popn_c w g last cl A p ck cm HS.out HK.out x).mono ?_
  rw [HO.out]
  rintro e w' ⟨rfl, rfl⟩
  have c66 := Blk.cell HS.out (pcs_p HK.out.len)
  have c67 := Blk.cell HS.out (pcs_ck HK.out.len)
  have c68 := Blk.cell HS.out (pcs_cm HK.out.len)
  have c1 := Blk.cell HS.out pcs_cl
  have f2 := Blk.free HS.out (2 + k)
  have f66 := Blk.free HS.out 66
  have f67 := Blk.free HS.out 67
  have f68 := Blk.free HS.out 68
  have f1 := Blk.free HS.out 1
  go_wp2_with fail
  go_region_with (go_at_call 20; refine (PC.out _).mono ?_; rintro e w2 ⟨rfl, rfl⟩)
  go_wp2_with fail
  go_ret
  refine ⟨rfl, ?_, KG.out, (((((Touch.refl [g] w).cell (List.mem_singleton.2 rfl) _ _).cell (List.mem_singleton.2 rfl) _ _).cell (List.mem_singleton.2 rfl) _ _).drew.cell (List.mem_singleton.2 rfl) _ _)⟩
  have h3 := Blk.set (Blk.set (Blk.set HS.out 66 (.bool true)) 67 (.int .i64 v)) 68 (.int .i64 c)
  have h4 := Blk.set (Blk.drew h3) 1 (.int .i64 x)
  rw [pset_p HK.out.len, pset_ck HK.out.len, pset_cm HK.out.len, pset_cl] at h4
  exact h4
theorem pleft_c (h : Pf w g last cl A p ck cm) (hk : Ok last cl A ck) (t c : Int) (ht : 0 ≤ t ∧ t ≤ 2199023255552) : Calls Try.prog 17 #[.pointer (some ⟨g, 0, none⟩), .int .i64 t, .int .i64 c] w fun e w' => e = .returned (.int .i64 (left p ck cm t c)) ∧ w = w' := by
  have c66 := Blk.cell h (pcs_p hk.len)
  have c67 := Blk.cell h (pcs_ck hk.len)
  have c68 := Blk.cell h (pcs_cm hk.len)
  have h0 := hk.k
  clear h hk
  cases p
  · have H := Lib.hid (show left false ck cm t c = 0 from left_no (by simp))
    go_enter Try.func17, Try.ntmps17
    go_wp2_with fail
    go_ret
    exact ⟨by rw [H.out]; rfl, rfl⟩
  · rcases (by omega : t < ck ∨ (ck ≤ t ∧ c < cm) ∨ (ck ≤ t ∧ cm ≤ c ∧ 12 ≤ t - ck) ∨ (ck ≤ t ∧ cm ≤ c ∧ t - ck < 12)) with k | ⟨k, k2⟩ | ⟨k, k2, k3⟩ | ⟨k, k2, k3⟩
    · have H := Lib.hid (show left true ck cm t c = 0 from left_no (by omega))
      go_enter Try.func17, Try.ntmps17
      go_wp2_with fail
      go_ret
      exact ⟨by rw [H.out]; rfl, rfl⟩
    · have H := Lib.hid (show left true ck cm t c = 0 from left_no (by omega))
      go_enter Try.func17, Try.ntmps17
      go_wp2_with fail
      go_ret
      exact ⟨by rw [H.out]; rfl, rfl⟩
    · have H := Lib.hid (show left true ck cm t c = 0 from left_no (by omega))
      go_enter Try.func17, Try.ntmps17
      go_wp2_with fail
      go_ret
      exact ⟨by rw [H.out]; rfl, rfl⟩
    · have H := Lib.hid (show left true ck cm t c = 12 - (t - ck) from left_yes ⟨rfl, k, k2, k3⟩)
      go_enter Try.func17, Try.ntmps17
      go_wp2_with fail
      go_ret
      exact ⟨by rw [H.out]; rfl, rfl⟩
theorem pgood_c (h : Pf w g last cl A p ck cm) (hk : Ok last cl A ck) (t c : Int) (ht : 0 ≤ t ∧ t ≤ 2199023255552) : Calls Try.prog 19 #[.pointer (some ⟨g, 0, none⟩), .int .i64 t, .int .i64 c] w fun e w' => e = .returned (.bool (decide (0 < left p ck cm t c))) ∧ w = w' := by
  have HL := Lib.hid (pleft_c w g last cl A p ck cm h hk t c ht)
  generalize left p ck cm t c = v at *
  go_enter Try.func19, Try.ntmps19
  go_wp2_with fail
  refine HL.out.mono ?_
  rintro e w' ⟨rfl, rfl⟩
  go_wp2_with fail
  go_ret
  exact ⟨rfl, rfl⟩
theorem pdrop_c (h : Pf w g last cl A p ck cm) (hk : Ok last cl A ck) : Calls Try.prog 15 #[.pointer (some ⟨g, 0, none⟩)] w fun e w' => e = .returned (.tuple #[]) ∧ Pf w' g last last A false ck cm ∧ Touch [g] w w' := by
  have c0 := Blk.cell h pcs_last
  have c1 := Blk.cell h pcs_cl
  have c66 := Blk.cell h (pcs_p hk.len)
  have f1 := Blk.free h 1
  have f66 := Blk.free h 66
  have HS := Lib.hid h
  have HL := Lib.hid hk.len
  clear h hk
  go_enter Try.func15, Try.ntmps15
  go_wp2_with fail
  go_end0
  refine ⟨rfl, ?_, ((Touch.refl [g] w).cell (List.mem_singleton.2 rfl) _ _).cell (List.mem_singleton.2 rfl) _ _⟩
  have := Blk.set (Blk.set HS.out 1 (.int .i64 last)) 66 (.bool false)
  rw [pset_cl, pset_p HL.out] at this
  exact this
end
end Go.Proofs.Ytfppngeldlpjiaa
