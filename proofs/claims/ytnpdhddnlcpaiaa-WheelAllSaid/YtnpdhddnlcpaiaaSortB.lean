/- Contracts of slices.insertionSortCmpFunc, symMergeCmpFunc, under a comparison by keys. -/
import Derived.Test.YtnpdhddnlcpaiaaSortA
import Derived.Shelf.Abstract
namespace Go.Proofs.Ytnpdhddnlcpaiaa
open Go.RowKit

/-- What is asked of the comparison: it tells two keys apart; it reads, and draws alone. -/
def Cm (w : World) (g : Nat) (kf : Int → Int) (V : Int → Prop) (G : FuncId) (cb : Array Value) : Prop :=
  ∀ w', Touch [g] w w' → ∀ x y, V x → V y → Calls Try.prog G (#[.int .i64 x, .int .i64 y] ++ cb) w' fun e w'' => e = .returned (.int .i64 (PSort.cmp3 (kf x) (kf y))) ∧ ∃ q, w'' = w'.drewN q
section
variable {w w' : World} {g : Nat} {kf : Int → Int} {V : Int → Prop} {G : FuncId} {cb : Array Value}
theorem Cm.on (h : Cm w g kf V G cb) (ht : Touch [g] w w') : Cm w' g kf V G cb := fun w2 h2 => h w2 (ht.trans h2)
theorem Cm.lo (h : Cm w g kf V G cb) (ht : Touch [g] w w') {x y : Int} (hx : V x) (hy : V y) (hl : kf x < kf y) (n : Nat) :
    Calls Try.prog G (#[.int .i64 x, .int .i64 y] ++ cb) (w'.drewN n) fun e w'' => e = .returned (.int .i64 (-1)) ∧ ∃ q, w'' = (w'.drewN n).drewN q := by
  have := h (w'.drewN n) (ht.drewN n) x y hx hy
  rwa [PSort.cmp3_lo hl] at this
theorem Cm.hi (h : Cm w g kf V G cb) (ht : Touch [g] w w') {x y : Int} (hx : V x) (hy : V y) (hl : ¬ kf x < kf y) : ∃ z : Nat, ∀ n,
    Calls Try.prog G (#[.int .i64 x, .int .i64 y] ++ cb) (w'.drewN n) fun e w'' => e = .returned (.int .i64 z) ∧ ∃ q, w'' = (w'.drewN n).drewN q := by
  have hz : ∃ z : Nat, PSort.cmp3 (kf x) (kf y) = z := by
    unfold PSort.cmp3; rw [if_neg hl]; split
    · exact ⟨1, rfl⟩
    · exact ⟨0, rfl⟩
  obtain ⟨z, hz⟩ := hz
  refine ⟨z, fun n => ?_⟩
  have := h (w'.drewN n) (ht.drewN n) x y hx hy
  rwa [hz] at this
end

/-- The outer round: M sorted, of what stood ahead of i. -/
def InsO (kf : Int → Int) (P S R : List Int) (a i : Nat) (M L : List Int) : Prop := M.Perm (S.take (i - a)) ∧ M.Pairwise (PSort.lt kf) ∧ L = P ++ (M ++ (S.drop (i - a) ++ R))
/-- The inner round: x on its way down. -/
def InsI (kf : Int → Int) (P S R : List Int) (a i j : Nat) (x : Int) (S1 S2 L : List Int) : Prop :=
  (S1 ++ S2).Perm (S.take (i - a)) ∧ (S1 ++ S2).Pairwise (PSort.lt kf) ∧ (∀ y ∈ S2, PSort.lt kf x y) ∧ j = a + S1.length ∧ L = P ++ (S1 ++ x :: (S2 ++ (S.drop (i + 1 - a) ++ R))) ∧ S.drop (i - a) = x :: S.drop (i + 1 - a)
section
variable {kf : Int → Int} {P S R M L S1 S2 : List Int} {a i j : Nat} {x : Int}
theorem InsO.inner (h : InsO kf P S R a i M L) (hS : S.Pairwise (· < ·)) (ha : a ≤ i) (hi : i < a + S.length) : ∃ x, InsI kf P S R a i i x M [] L ∧ (∀ y ∈ S.take (i - a), y < x) ∧ x ∈ S := by
  obtain ⟨h1, h2, h3⟩ := h
  have e : i + 1 - a = i - a + 1 := by omega
  refine ⟨S[i - a]'(by omega), ⟨by simpa using h1, by simpa using h2, by simp, ?_, ?_, ?_⟩, ?_, List.getElem_mem _⟩
  · rw [h1.length_eq, List.length_take]; omega
  · rw [h3, List.drop_eq_getElem_cons (show i - a < S.length by omega), e]; rfl
  · rw [List.drop_eq_getElem_cons (show i - a < S.length by omega), e]
  · intro y hy
    have hs := hS
    rw [← List.take_append_drop (i - a) S, List.drop_eq_getElem_cons (show i - a < S.length by omega)] at hs
    exact (List.pairwise_append.1 hs).2.2 y hy _ (List.mem_cons_self ..)
theorem InsI.out (h : InsI kf P S R a i j x S1 S2 L) (ha : a ≤ i) (hs : ∀ y ∈ S1, PSort.lt kf y x) : InsO kf P S R a (i + 1) (S1 ++ x :: S2) L := by
  obtain ⟨h1, h2, h3, h4, h5, h6⟩ := h
  refine ⟨?_, PSort.ins_sorted h2 h3 hs, by rw [h5]; simp⟩
  have e : i + 1 - a = i - a + 1 := by omega
  have : S.take (i + 1 - a) = S.take (i - a) ++ [x] := by rw [e, List.take_add, h6]; simp
  rw [this]
  exact List.perm_middle.trans ((h1.cons x).trans (List.perm_append_singleton x _).symm)
theorem InsI.down {y : Int} {S0 : List Int} (h : InsI kf P S R a i j x (S0 ++ [y]) S2 L) (hl : PSort.lt kf x y) : InsI kf P S R a i (j - 1) x S0 (y :: S2) ((P ++ S0) ++ x :: ([] ++ y :: (S2 ++ (S.drop (i + 1 - a) ++ R)))) := by
  obtain ⟨h1, h2, h3, h4, h5, h6⟩ := h
  refine ⟨by simpa using h1, by simpa using h2, fun z hz => ?_, by simp at h4; omega, by simp, h6⟩
  rcases List.mem_cons.1 hz with rfl | hz
  · exact hl
  · exact h3 z hz
theorem InsI.row {y : Int} {S0 : List Int} (h : InsI kf P S R a i j x (S0 ++ [y]) S2 L) : L = (P ++ S0) ++ y :: ([] ++ x :: (S2 ++ (S.drop (i + 1 - a) ++ R))) := by
  rw [h.2.2.2.2.1]; simp
theorem last_or (S : List Int) : S = [] ∨ ∃ S0 y, S = S0 ++ [y] := by
  rcases List.eq_nil_or_concat S with h | ⟨S0, y, h⟩
  · exact .inl h
  · exact .inr ⟨S0, y, by rw [h, List.concat_eq_append]⟩
end

set_option maxHeartbeats 1600000 in
set_option maxRecDepth 100000 in
theorem insert_c (w : World) (g c N a b : Nat) (Z : List Value) (P S R : List Int) (kf : Int → Int) (V : Int → Prop) (G : FuncId) (cb : Array Value) (eg : ∀ args w, (callFunc G args).run Try.prog w = .ok (.enter G args) w)
    (ha : P.length = a) (hb : a + S.length = b) (hN : b ≤ N) (hS : Sl w g Z (P ++ (S ++ R))) (hbig : N < 4611686018427387904) (hC : Cm w g kf V G cb) (hV : ∀ x ∈ S, V x) (hup : S.Pairwise (· < ·)) :
    Calls Try.prog 30 #[.slice (some ⟨g, 0, none⟩) N c, .int .i64 a, .int .i64 b, .func (.func G) #[] cb] w fun e w' => e = .returned (.tuple #[]) ∧ ∃ M, M.Perm S ∧ M.Pairwise (PSort.lt kf) ∧ Sl w' g Z (P ++ (M ++ R)) ∧ Touch [g] w w' := by
  have t0 : InsO kf P S R a (a + 1) (S.take 1) (P ++ (S ++ R)) := ⟨by rw [show a + 1 - a = 1 by omega], by
      cases S with
      | nil => simp
      | cons x S => simp, by rw [show a + 1 - a = 1 by omega, ← List.append_assoc (S.take 1), List.take_append_drop]⟩
  have T0 := Lib.hid (And.intro t0 hS)
  have HV := Lib.hid (And.intro hV (And.intro hup (And.intro ha (And.intro hb hC))))
  have hab : a ≤ b := by omega
  clear t0 hS hb ha hV hup hC
  go_enter Try.func30, Try.ntmps30
  go_wp2_with fail
  go_loopw [8] (fun s8 wr => ∃ (i : Nat) (M L : List Int), s8 = .int .i64 i ∧ a < i ∧ (i ≤ b ∨ i = a + 1) ∧ Hid (InsO kf P S R a i M L) ∧ Hid (Sl wr g Z L) ∧ Hid (Touch [g] w wr)) (fun s8 _ => b + 1 - (intOf s8).toNat)
  case atStart => exact ⟨a + 1, _, _, by go_num, by omega, .inr rfl, Lib.hid T0.out.1, Lib.hid T0.out.2, Lib.hid (Touch.refl _ _)⟩
  case round =>
    obtain ⟨i, M, L, rfl, hai, hib, TI, SI, hT⟩ := hrel
    by_cases hlt : i < b
    · obtain ⟨x, i0, hxs, hxm⟩ := TI.out.inner HV.out.2.1 (by omega) (by have := HV.out.2.2.2.1; omega)
      have HX := Lib.hid (And.intro hxs hxm)
      have I0 := Lib.hid i0
      clear i0 hxs hxm TI
      go_wp2_with fail
      go_loopw [9] (fun s9 wr2 => ∃ (j : Nat) (S1 S2 L : List Int), s9 = .int .i64 j ∧ a ≤ j ∧ j ≤ i ∧ Hid (InsI kf P S R a i j x S1 S2 L) ∧ Hid (Sl wr2 g Z L) ∧ Hid (Touch [g] w wr2)) (fun s9 _ => (intOf s9).toNat)
      case atStart => exact ⟨i, M, [], L, rfl, by omega, by omega, I0, SI, hT⟩
      case round =>
        clear I0 SI hT
        obtain ⟨j, S1, S2, L, rfl, haj, hji, TJ, SJ, hTJ⟩ := hrel
        rcases last_or S1 with rfl | ⟨S0, y, rfl⟩
        · have hj : j = a := by have := TJ.out.2.2.2.1; simpa using this
          subst hj
          have hO := Lib.hid (TJ.out.out (by omega) (by simp))
          have hjaz : decide ((j : Int) > (j : Int)) = false := decide_eq_false (by omega)
          have hjaz' : ¬ (j : Int) < (j : Int) := by omega
          go_wp2_with fail
          go_quiet (fail)
          go_wp2_with fail
          go_roundw
          case rel => exact ⟨i + 1, _, _, by go_num, by omega, by omega, hO, Lib.hid (SJ.out.drewN _), Lib.hid (hTJ.out.drewN _)⟩
          case measure => simp [intOf]; omega
        · have hj0 : j = a + S0.length + 1 := by have := TJ.out.2.2.2.1; simp at this; omega
          obtain ⟨jp, hjp⟩ : ∃ jp, jp = a + S0.length := ⟨_, rfl⟩
          have hj1 : j = jp + 1 := by omega
          subst hj1
          have SJ' := SJ.out
          have hL := TJ.out.row
          subst hL
          obtain ⟨c1, c2, f1, f2, s1, s2⟩ := SJ'.two (p := jp) (q := jp + 1) (by rw [List.length_append, HV.out.2.2.1]; omega) (by rw [List.length_append, HV.out.2.2.1]; simp; omega)
          have S2' := Lib.hid s2
          have hy : y ∈ S := by
            have := TJ.out.1.mem_iff.1 (show y ∈ S0 ++ [y] ++ S2 by simp)
            exact List.mem_of_mem_take this
          have hyx : y < x := HX.out.1 y (TJ.out.1.mem_iff.1 (show y ∈ S0 ++ [y] ++ S2 by simp))
          have HJ := Lib.hid hjp
          have hwp : IntKind.i64.wrap (jp : Int) = (jp : Int) := by rw [IntKind.wrap_i64]; omega
          have hjaz' : (a : Int) < (jp : Int) + 1 := by omega
          have jz : (jp : Int) + 1 < (N : Int) := by omega
          have jz1 : (jp : Int) < (N : Int) := by omega
          have e0 : ((jp : Int) + 1).toNat = jp + 1 := by omega
          clear s1 s2 SJ' hj0 hjp
          by_cases hk : kf x < kf y
          · have hc := fun n => Cm.lo HV.out.2.2.2.2 hTJ.out (HV.out.1 x HX.out.2) (HV.out.1 y hy) hk n
            have hd := Lib.hid (TJ.out.down (PSort.lt_pos hk))
            have HH := Lib.hid (And.intro hy (And.intro hyx hk))
            clear hk hy hyx
            go_wp2_with fail
            go_quiet (first | (go_at_fn G; refine Calls.quiet_of (hc _)))
            go_wp2_with fail
            have c1' : (wr.drewN nq).cell? ⟨g, jp, none⟩ = some (.int .i64 y) := c1
            have c2' : (wr.drewN nq).cell? ⟨g, jp + 1, none⟩ = some (.int .i64 x) := c2
            have f1' : (wr.drewN nq).frozen? ⟨g, jp, none⟩ = false := f1
            have f2' : (wr.drewN nq).frozen? ⟨g, jp + 1, none⟩ = false := f2
            have s2' := Lib.hid (S2'.out _ (SJ.out.drewN nq))
            have hT' := Lib.hid (hTJ.out.drewN nq)
            clear c1 c2 f1 f2 hc SJ S2'
            generalize wr.drewN nq = wq at c1' c2' f1' f2' s2' hT' ⊢
            obtain ⟨j1, hj1⟩ : ∃ j1, j1 = jp + 1 := ⟨_, rfl⟩
            rw [← hj1] at c2' f2' e0
            have J1 := Lib.hid hj1
            clear hj1
            go_big_region
            all_goals go_wp2_with fail
            go_roundw
            case rel => exact ⟨jp, S0, y :: S2, _, by go_num, by omega, by omega, hd, Lib.hid (by have := s2'.out; rw [← J1.out] at this; exact this.drew), Lib.hid ((hT'.out.cell (by simp) _ _).cell (by simp) _ _).drew⟩
            case measure => simp [intOf]
          · obtain ⟨z, hc⟩ := Cm.hi HV.out.2.2.2.2 hTJ.out (HV.out.1 x HX.out.2) (HV.out.1 y hy) hk
            have hO := Lib.hid (TJ.out.out (by omega) (PSort.last_all (by have := TJ.out.2.1; exact (List.pairwise_append.1 this).1) (PSort.lt_neg hyx hk)))
            have HH := Lib.hid (And.intro hy (And.intro hyx hk))
            clear hk hy hyx
            go_wp2_with fail
            go_quiet (first | (go_at_fn G; refine Calls.quiet_of (hc _)))
            go_wp2_with fail
            go_roundw
            case rel => exact ⟨i + 1, _, _, by go_num, by omega, by omega, hO, Lib.hid (SJ.out.drewN _), Lib.hid (hTJ.out.drewN _)⟩
            case measure => simp [intOf]; omega
    · go_wp2_with fail
      go_end0
      obtain ⟨t1, t2, t3⟩ := TI.out
      have hl : S.length ≤ i - a := by have := HV.out.2.2.2.1; omega
      rw [List.take_of_length_le hl] at t1
      rw [List.drop_of_length_le hl, List.nil_append] at t3
      exact ⟨rfl, M, t1, t2, by rw [← t3]; exact SI.out, hT.out⟩

end Go.Proofs.Ytnpdhddnlcpaiaa
