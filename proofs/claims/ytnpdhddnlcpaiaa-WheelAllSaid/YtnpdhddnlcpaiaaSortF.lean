/- slices.stableCmpFunc, slices.SortStableFunc: of what rises the sorted row. -/
import Derived.Test.YtnpdhddnlcpaiaaSortE
namespace Go.Proofs.Ytnpdhddnlcpaiaa
open Go.RowKit

section
variable {kf : Int → Int} {L Lr T M P S R : List Int} {D E : List (List Int)} {a bs : Nat}
theorem perm_mid (h : (P ++ (S ++ R)).Perm L) (hp : M.Perm S) : (P ++ (M ++ R)).Perm L := ((hp.append_right R).append_left P).trans h

/-- So many rows of twenty, sorted; the rest rises. -/
def Stg1 (kf : Int → Int) (L : List Int) (a : Nat) (D : List (List Int)) (T Lr : List Int) : Prop :=
  D.flatten.length = a ∧ Lr = D.flatten ++ T ∧ PSort.Chunks kf 20 D T ∧ T.Pairwise (· < ·) ∧ Lr.Perm L
theorem Stg1.start (kf : Int → Int) (h : L.Pairwise (· < ·)) : Stg1 kf L 0 [] L L := ⟨rfl, rfl, PSort.Chunks.nil _ _, h, List.Perm.refl _⟩
theorem Stg1.row (h : Stg1 kf L a D T Lr) (h20 : 20 ≤ T.length) : Lr = D.flatten ++ (T.take 20 ++ T.drop 20) ∧ (T.take 20).Pairwise (· < ·) ∧ (T.take 20).length = 20 := by
  obtain ⟨h1, h2, h3, h4, h5⟩ := h
  have h4' : (T.take 20 ++ T.drop 20).Pairwise (· < ·) := by rw [List.take_append_drop]; exact h4
  exact ⟨by rw [List.take_append_drop]; exact h2, (List.pairwise_append.1 h4').1, by simp; omega⟩
theorem Stg1.step (h : Stg1 kf L a D T Lr) (h20 : 20 ≤ T.length) (hp : M.Perm (T.take 20)) (hs : M.Pairwise (PSort.lt kf)) : Stg1 kf L (a + 20) (D ++ [M]) (T.drop 20) (D.flatten ++ (M ++ T.drop 20)) := by
  obtain ⟨e1, e2, e3⟩ := h.row h20
  obtain ⟨h1, h2, h3, h4, h5⟩ := h
  have h4'' : (T.take 20 ++ T.drop 20).Pairwise (· < ·) := by rw [List.take_append_drop]; exact h4
  have h4' := List.pairwise_append.1 h4''
  refine ⟨by simp [h1, hp.length_eq]; omega, by simp, h3.snoc (by rw [hp.length_eq, e3]) hs (fun x hx => List.mem_of_mem_take (hp.mem_iff.1 hx)) (fun y hy => List.mem_of_mem_drop hy) (fun x hx y hy => h4'.2.2 x (hp.mem_iff.1 hx) y hy), h4'.2.1, ?_⟩
  exact perm_mid (by rw [← e1]; exact h5) hp

/-- So many rows of bs, sorted, and a shorter one. -/
def Stg2 (kf : Int → Int) (L : List Int) (bs : Nat) (D : List (List Int)) (T Lr : List Int) : Prop :=
  PSort.Chunks kf bs D T ∧ T.Pairwise (PSort.lt kf) ∧ T.length < bs ∧ Lr = D.flatten ++ T ∧ Lr.Perm L
theorem Stg1.two (h : Stg1 kf L a D T Lr) (h20 : T.length < 20) (hp : M.Perm T) (hs : M.Pairwise (PSort.lt kf)) : Stg2 kf L 20 D M (D.flatten ++ (M ++ [])) := by
  obtain ⟨h1, h2, h3, h4, h5⟩ := h
  refine ⟨h3.tail fun y hy => hp.mem_iff.1 hy, hs, by rw [hp.length_eq]; exact h20, by simp, perm_mid (S := T) (by simpa [← h2] using h5) hp⟩
theorem Stg2.done (h : Stg2 kf L bs D T Lr) (hb : L.length ≤ bs) : Lr.Perm L ∧ Lr.Pairwise (PSort.lt kf) := by
  obtain ⟨h1, h2, h3, h4, h5⟩ := h
  refine ⟨h5, ?_⟩
  have hl := h5.length_eq
  rw [h4, List.length_append] at hl
  match D, h1 with
  | [], _ => simpa [h4] using h2
  | [c], h1 =>
    have hc := h1.1 c (by simp)
    simp at hl
    have : T = [] := List.eq_nil_of_length_eq_zero (by omega)
    subst this
    simpa [h4] using hc.2
  | c :: d :: D, h1 =>
    have hc := (h1.1 c (by simp)).1
    have hd := (h1.1 d (by simp)).1
    simp at hl
    omega

/-- Rows of twice as many, rows of bs, a shorter one. -/
def Stg3 (kf : Int → Int) (L : List Int) (bs a : Nat) (E D : List (List Int)) (T Lr : List Int) : Prop :=
  E.flatten.length = a ∧ Lr = E.flatten ++ (D.flatten ++ T) ∧ PSort.Chunks kf (2 * bs) E (D.flatten ++ T) ∧ PSort.Chunks kf bs D T ∧ T.Pairwise (PSort.lt kf) ∧ T.length < bs ∧ Lr.Perm L
theorem Stg2.three (h : Stg2 kf L bs D T Lr) : Stg3 kf L bs 0 [] D T Lr := by
  obtain ⟨h1, h2, h3, h4, h5⟩ := h
  exact ⟨rfl, by simpa using h4, PSort.Chunks.nil _ _, h1, h2, h3, h5⟩
/-- Where two rows more are there. -/
theorem Stg3.two (h : Stg3 kf L bs a E D T Lr) (hb : a + 2 * bs ≤ L.length) : ∃ c d D', D = c :: d :: D' ∧ c.length = bs ∧ d.length = bs ∧ c.Pairwise (PSort.lt kf) ∧ d.Pairwise (PSort.lt kf) ∧ (∀ x ∈ c, ∀ y ∈ d, x < y) ∧
    Lr = E.flatten ++ (c ++ (d ++ (D'.flatten ++ T))) ∧ E.flatten.length = a ∧
    (∀ M, M.Perm (c ++ d) → M.Pairwise (PSort.lt kf) → Stg3 kf L bs (a + 2 * bs) (E ++ [M]) D' T (E.flatten ++ (M ++ (D'.flatten ++ T)))) := by
  obtain ⟨h1, h2, h3, h4, h5, h6, h7⟩ := h
  have hl := h7.length_eq
  rw [h2] at hl
  simp only [List.length_append, h1] at hl
  match D, h3, h4, h2, hl with
  | [], _, _, _, hl => simp at hl; omega
  | [c], _, h4, _, hl =>
    have := (h4.1 c (by simp)).1
    simp at hl; omega
  | c :: d :: D', h3, h4, h2, hl =>
    have hc := h4.1 c (by simp)
    have hd := h4.1 d (by simp)
    have hp := List.pairwise_cons.1 h4.2.2
    have hp2 := List.pairwise_cons.1 hp.2
    have hcd := hp.1 d (by simp)
    refine ⟨c, d, D', rfl, hc.1, hd.1, hc.2, hd.2, hcd, by rw [h2]; simp, h1, fun M hM hs => ?_⟩
    have hr : ∀ x ∈ M, ∀ y ∈ D'.flatten ++ T, x < y := by
      intro x hx y hy
      rcases List.mem_append.1 (hM.mem_iff.1 hx) with hx | hx
      · rcases List.mem_append.1 hy with hy | hy
        · obtain ⟨e, he, hy⟩ := List.mem_flatten.1 hy
          exact hp.1 e (by simp [he]) x hx y hy
        · exact h4.2.1 x (by simp [hx]) y hy
      · rcases List.mem_append.1 hy with hy | hy
        · obtain ⟨e, he, hy⟩ := List.mem_flatten.1 hy
          exact hp2.1 e he x hx y hy
        · exact h4.2.1 x (by simp [hx]) y hy
    refine ⟨by simp [h1, hM.length_eq, hc.1, hd.1]; omega, by simp, ?_, ⟨fun e he => h4.1 e (by simp [he]), fun x hx y hy => h4.2.1 x (by simp [List.flatten_cons]; exact .inr (.inr (List.mem_flatten.1 hx))) y hy, hp2.2⟩, h5, h6, ?_⟩
    · refine h3.snoc (by rw [hM.length_eq]; simp [hc.1, hd.1]; omega) hs (fun x hx => ?_) (fun y hy => ?_) hr
      · have := hM.mem_iff.1 hx
        rcases List.mem_append.1 this with h | h <;> simp [h]
      · rcases List.mem_append.1 hy with h | h
        · simp only [List.flatten_cons, List.mem_append]; exact .inl (.inr (.inr h))
        · simp [h]
    · exact perm_mid (S := c ++ d) (by rw [h2] at h7; simpa using h7) hM
/-- Where fewer than two rows are left. -/
theorem Stg3.last (h : Stg3 kf L bs a E D T Lr) (hb : L.length < a + 2 * bs) (hm : a + bs < L.length) : ∃ c, D = [c] ∧ c.length = bs ∧ c.Pairwise (PSort.lt kf) ∧ T.Pairwise (PSort.lt kf) ∧ (∀ x ∈ c, ∀ y ∈ T, x < y) ∧
    Lr = E.flatten ++ (c ++ (T ++ [])) ∧ E.flatten.length = a ∧ a + bs + T.length = L.length ∧
    (∀ M, M.Perm (c ++ T) → M.Pairwise (PSort.lt kf) → Stg2 kf L (bs * 2) E M (E.flatten ++ (M ++ []))) := by
  obtain ⟨h1, h2, h3, h4, h5, h6, h7⟩ := h
  have hl := h7.length_eq
  rw [h2] at hl
  simp only [List.length_append, h1] at hl
  match D, h3, h4, h2, hl with
  | [], _, _, _, hl => simp at hl; omega
  | [c], h3, h4, h2, hl =>
    have hc := h4.1 c (by simp)
    simp at hl
    refine ⟨c, rfl, hc.1, hc.2, h5, fun x hx y hy => h4.2.1 x (by simpa using hx) y hy, by rw [h2]; simp, h1, by omega, fun M hM hs => ?_⟩
    rw [Nat.mul_comm bs 2]
    refine ⟨h3.tail fun y hy => by have := hM.mem_iff.1 hy; simpa using this, hs, by rw [hM.length_eq]; simp; omega, by simp, perm_mid (S := c ++ T) (by rw [h2] at h7; simpa using h7) hM⟩
  | c :: d :: D', _, h4, _, hl =>
    have hc := (h4.1 c (by simp)).1
    have hd := (h4.1 d (by simp)).1
    simp at hl; omega
theorem Stg3.idle (h : Stg3 kf L bs a E D T Lr) (hm : ¬ a + bs < L.length) : ∃ T', Stg2 kf L (bs * 2) E T' Lr := by
  obtain ⟨h1, h2, h3, h4, h5, h6, h7⟩ := h
  have hl := h7.length_eq
  rw [h2] at hl
  simp only [List.length_append, h1] at hl
  rw [Nat.mul_comm bs 2]
  match D, h3, h4, h2, hl with
  | [], h3, _, h2, hl => exact ⟨T, by simpa using h3, h5, by omega, by simpa using h2, h7⟩
  | [c], h3, h4, h2, hl =>
    have hc := h4.1 c (by simp)
    simp at hl
    have : T = [] := List.eq_nil_of_length_eq_zero (by omega)
    subst this
    exact ⟨c, by simpa using h3, hc.2, by omega, by simpa using h2, h7⟩
  | c :: d :: D', _, h4, _, hl =>
    have hc := (h4.1 c (by simp)).1
    have hd := (h4.1 d (by simp)).1
    simp at hl; omega
end

set_option maxHeartbeats 1600000 in
set_option maxRecDepth 100000 in
theorem stable_c (w : World) (g c N : Nat) (Z : List Value) (L : List Int) (kf : Int → Int) (V : Int → Prop) (G : FuncId) (cb : Array Value) (eg : ∀ args w, (callFunc G args).run Try.prog w = .ok (.enter G args) w)
    (hN : N = L.length) (hbig : N < 1099511627776) (hS : Sl w g Z L) (hC : Cm w g kf V G cb) (hV : ∀ x ∈ L, V x) (hup : L.Pairwise (· < ·)) :
    Calls Try.prog 28 #[.slice (some ⟨g, 0, none⟩) N c, .int .i64 N, .func (.func G) #[] cb] w fun e w' => e = .returned (.tuple #[]) ∧ ∃ M, M.Perm L ∧ M.Pairwise (PSort.lt kf) ∧ Sl w' g Z M ∧ Touch [g] w w' := by
  have HV := Lib.hid (And.intro hC (And.intro hV hN))
  have T0 := Lib.hid (Stg1.start kf hup)
  have S0 := Lib.hid hS
  clear hC hV hS hN hup
  go_enter Try.func28, Try.ntmps28
  go_wp2_with fail
  go_loopw [7, 8] (fun s7 s8 wr => ∃ (a : Nat) (D : List (List Int)) (T Lr : List Int), s7 = .int .i64 a ∧ s8 = .int .i64 (a + 20 : Nat) ∧ a ≤ N ∧ Hid (Stg1 kf L a D T Lr) ∧ Hid (Sl wr g Z Lr) ∧ Hid (Touch [g] w wr)) (fun s7 _ _ => N - (intOf s7).toNat)
  case atStart => exact ⟨0, [], L, L, rfl, rfl, by omega, T0, S0, Lib.hid (Touch.refl _ _)⟩
  case round =>
    clear T0 S0
    obtain ⟨a, D, T, Lr, rfl, rfl, haN, TI, SI, hT⟩ := hrel
    have hlen : a + T.length = N := by
      obtain ⟨h1, h2, h3, h4, h5⟩ := TI.out
      have := h5.length_eq
      rw [h2, List.length_append, h1, ← HV.out.2.2] at this; exact this
    by_cases h20 : a + 20 ≤ N
    · have hT20 : 20 ≤ T.length := by omega
      obtain ⟨e1, e2, e3⟩ := TI.out.row hT20
      have HE := Lib.hid (And.intro e1 (And.intro e2 (And.intro e3 hlen)))
      have hT20' := Lib.hid hT20
      clear e1 e2 e3 hlen hT20
      go_wp2_with fail
      refine (insert_c _ g c N a (a + 20) Z D.flatten (T.take 20) (T.drop 20) kf V G cb eg TI.out.1 (by rw [HE.out.2.2.1]) h20 (by rw [← HE.out.1]; exact SI.out) (by omega) (HV.out.1.on hT.out)
        (fun x hx => HV.out.2.1 x (TI.out.2.2.2.2.mem_iff.1 (by rw [TI.out.2.1]; exact List.mem_append_right _ (List.mem_of_mem_take hx)))) HE.out.2.1).mono ?_
      rintro e w1 ⟨rfl, M, p1, s1, S1, hT1⟩
      have S1' := Lib.hid (And.intro p1 (And.intro s1 S1))
      clear p1 s1 S1
      go_wp2_with fail
      go_roundw
      case rel => exact ⟨a + 20, _, _, _, by go_num, by go_num, by omega, Lib.hid (TI.out.step hT20'.out S1'.out.1 S1'.out.2.1), Lib.hid S1'.out.2.2, Lib.hid (hT.out.trans hT1)⟩
      case measure => simp [intOf]; omega
    · have HE := Lib.hid hlen
      have hT20 : Hid (T.length < 20) := Lib.hid (by omega)
      clear hlen
      go_wp2_with fail
      refine (insert_c _ g c N a N Z D.flatten T [] kf V G cb eg TI.out.1 HE.out (Nat.le_refl _) (by have := SI.out; rw [TI.out.2.1] at this; simpa using this) (by omega) (HV.out.1.on hT.out)
        (fun x hx => HV.out.2.1 x (TI.out.2.2.2.2.mem_iff.1 (by rw [TI.out.2.1]; exact List.mem_append_right _ hx))) TI.out.2.2.2.1).mono ?_
      rintro e w1 ⟨rfl, M, p1, s1, S1, hT1⟩
      have S1' := Lib.hid (And.intro (TI.out.two hT20.out p1 s1) S1)
      have hT1' := Lib.hid (hT.out.trans hT1)
      clear p1 s1 S1 TI SI HE hT20 hT hT1
      go_wp2_with fail
      go_loopw [6, 7, 8, 9] (fun s6 s7 s8 s9 wr => ∃ (bs : Nat) (D : List (List Int)) (T Lr : List Int), s6 = .int .i64 bs ∧ 20 ≤ bs ∧ bs ≤ 2 * N + 20 ∧ Hid (Stg2 kf L bs D T Lr) ∧ Hid (Sl wr g Z Lr) ∧ Hid (Touch [g] w wr)) (fun s6 _ _ _ _ => N - (intOf s6).toNat)
      case atStart => exact ⟨20, _, _, _, rfl, by omega, by omega, Lib.hid S1'.out.1, Lib.hid S1'.out.2, hT1'⟩
      case round =>
        clear S1' hT1'
        obtain ⟨bs, D, T, Lr, rfl, hb20, hbN, TI, SI, hT⟩ := hrel
        by_cases hlt : bs < N
        · go_wp2_with fail
          go_loopw [7, 8] (fun s7 s8 wr => ∃ (a : Nat) (E D : List (List Int)) (T Lr : List Int), s7 = .int .i64 a ∧ s8 = .int .i64 (a + 2 * bs : Nat) ∧ a ≤ N ∧ Hid (Stg3 kf L bs a E D T Lr) ∧ Hid (Sl wr g Z Lr) ∧ Hid (Touch [g] w wr)) (fun s7 _ _ => N - (intOf s7).toNat)
          case atStart => exact ⟨0, [], D, T, Lr, rfl, by go_num, by omega, Lib.hid TI.out.three, SI, hT⟩
          case round =>
            clear TI SI hT
            obtain ⟨a, E, D, T, Lr, rfl, rfl, haN, TI, SI, hT⟩ := hrel
            by_cases h2 : a + 2 * bs ≤ N
            · obtain ⟨c1, c2, D', e0, e1, e2, e3, e4, e5, e6, e7, e8⟩ := TI.out.two (by rw [← HV.out.2.2]; exact h2)
              have hmem : ∀ x ∈ c1 ++ c2, V x := fun x hx => HV.out.2.1 x (TI.out.2.2.2.2.2.2.mem_iff.1 (by rw [e6]; rcases List.mem_append.1 hx with h | h <;> simp [h]))
              have hNl : N = E.flatten.length + (c1.length + (c2.length + (D'.flatten ++ T).length)) := by
                have := TI.out.2.2.2.2.2.2.length_eq
                rw [e6, ← HV.out.2.2] at this; simp only [List.length_append] at this ⊢; omega
              have HE := Lib.hid (And.intro e1 (And.intro e2 (And.intro e3 (And.intro e4 (And.intro e5 (And.intro e6 (And.intro e7 (And.intro e8 (And.intro hmem hNl)))))))))
              clear e0 e1 e2 e3 e4 e5 e6 e7 e8 hmem hNl
              have h2' : (a : Int) + 2 * (bs : Int) ≤ (N : Int) := by omega
              go_wp2_with fail
              refine (sym_c kf V G cb eg g c N Z (by omega) _ _ a (a + bs) (a + 2 * bs) E.flatten c1 c2 (D'.flatten ++ T) (Nat.le_refl _) HE.out.2.2.2.2.2.2.1 (by rw [HE.out.1]) (by rw [HE.out.2.1]; omega) (by omega) (by omega) HE.out.2.2.2.2.2.2.2.2.2
                (by rw [← HE.out.2.2.2.2.2.1]; exact SI.out) (HV.out.1.on hT.out) HE.out.2.2.2.2.2.2.2.2.1 HE.out.2.2.1 HE.out.2.2.2.1 HE.out.2.2.2.2.1).mono ?_
              rintro e w1 ⟨rfl, M, p1, s1, S1, hT1⟩
              have S1' := Lib.hid (And.intro (HE.out.2.2.2.2.2.2.2.1 M p1 s1) S1)
              clear p1 s1 S1
              go_wp2_with fail
              go_roundw
              case rel => exact ⟨a + 2 * bs, _, _, _, _, by go_num, by go_num, by omega, Lib.hid S1'.out.1, Lib.hid S1'.out.2, Lib.hid (hT.out.trans hT1)⟩
              case measure => simp [intOf]; omega
            · have h2' : ¬ (a : Int) + 2 * (bs : Int) ≤ (N : Int) := by omega
              by_cases hm : a + bs < N
              · obtain ⟨c1, e0, e1, e2, e3, e4, e5, e6, e7, e8⟩ := TI.out.last (by rw [← HV.out.2.2]; omega) (by rw [← HV.out.2.2]; exact hm)
                have hmem : ∀ x ∈ c1 ++ T, V x := fun x hx => HV.out.2.1 x (TI.out.2.2.2.2.2.2.mem_iff.1 (by rw [e5]; rcases List.mem_append.1 hx with h | h <;> simp [h]))
                have e7' : a + bs + T.length = N := by rw [e7]; exact HV.out.2.2.symm
                have hNl : N = E.flatten.length + (c1.length + (T.length + ([] : List Int).length)) := by
                  simp only [List.length_nil]; omega
                have HE := Lib.hid (And.intro e1 (And.intro e2 (And.intro e3 (And.intro e4 (And.intro e5 (And.intro e6 (And.intro e7' (And.intro e8 (And.intro hmem hNl)))))))))
                clear e0 e1 e2 e3 e4 e5 e6 e7 e8 e7' hmem hNl
                go_wp2_with fail
                refine (sym_c kf V G cb eg g c N Z (by omega) _ _ a (a + bs) N E.flatten c1 T [] (Nat.le_refl _) HE.out.2.2.2.2.2.1 (by rw [HE.out.1]) HE.out.2.2.2.2.2.2.1 (by omega) (by omega) HE.out.2.2.2.2.2.2.2.2.2
                  (by rw [← HE.out.2.2.2.2.1]; exact SI.out) (HV.out.1.on hT.out) HE.out.2.2.2.2.2.2.2.2.1 HE.out.2.1 HE.out.2.2.1 HE.out.2.2.2.1).mono ?_
                rintro e w1 ⟨rfl, M, p1, s1, S1, hT1⟩
                have S1' := Lib.hid (And.intro (HE.out.2.2.2.2.2.2.2.1 M p1 s1) S1)
                clear p1 s1 S1
                go_wp2_with fail
                go_roundw
                case rel => exact ⟨bs * 2, _, _, _, by go_num, by omega, by omega, Lib.hid S1'.out.1, Lib.hid S1'.out.2, Lib.hid (hT.out.trans hT1)⟩
                case measure => simp [intOf]; omega
              · obtain ⟨T', t2⟩ := TI.out.idle (by rw [← HV.out.2.2]; exact hm)
                have T2 := Lib.hid t2
                clear t2
                go_wp2_with fail
                go_roundw
                case rel => exact ⟨bs * 2, _, _, _, by go_num, by omega, by omega, T2, SI, hT⟩
                case measure => simp [intOf]; omega
        · have HF := Lib.hid (TI.out.done (by rw [← HV.out.2.2]; omega))
          clear TI
          go_wp2_with fail
          go_end0
          exact ⟨rfl, Lr, HF.out.1, HF.out.2, SI.out, hT.out⟩

theorem sortStable_c (w : World) (g c N : Nat) (Z : List Value) (L : List Int) (kf : Int → Int) (V : Int → Prop) (G : FuncId) (cb : Array Value) (eg : ∀ args w, (callFunc G args).run Try.prog w = .ok (.enter G args) w)
    (hN : N = L.length) (hbig : N < 1099511627776) (hS : Sl w g Z L) (hC : Cm w g kf V G cb) (hV : ∀ x ∈ L, V x) (hup : L.Pairwise (· < ·)) :
    Calls Try.prog 23 #[.slice (some ⟨g, 0, none⟩) N c, .func (.func G) #[] cb] w fun e w' => e = .returned (.tuple #[]) ∧ ∃ M, M.Perm L ∧ M.Pairwise (PSort.lt kf) ∧ Sl w' g Z M ∧ Touch [g] w w' := by
  have H := Lib.hid (And.intro hN (And.intro hS (And.intro hC (And.intro hV hup))))
  clear hN hS hC hV hup
  go_enter Try.func23, Try.ntmps23
  go_wp2_with fail
  refine (stable_c _ g c N Z L kf V G cb eg H.out.1 hbig H.out.2.1 H.out.2.2.1 H.out.2.2.2.1 H.out.2.2.2.2).mono ?_
  rintro e w1 ⟨rfl, M, p1, s1, S1, hT1⟩
  have S1' := Lib.hid (And.intro p1 (And.intro s1 (And.intro S1 hT1)))
  clear p1 s1 S1 hT1
  go_wp2_with fail
  go_end0
  exact ⟨rfl, M, S1'.out.1, S1'.out.2.1, S1'.out.2.2.1, S1'.out.2.2.2⟩

end Go.Proofs.Ytnpdhddnlcpaiaa
