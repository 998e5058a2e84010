/- 'Rs': the document's votes at block g; contract of its Team. -/
import Derived.Test.YtheeigbljjcbpaaVoteP
import Derived.Test.YtheeigbljjcbpaaTeamR
namespace Go.Proofs.Ytheeigbljjcbpaa
open Go.RowKit PVote

theorem rvote_info : (Try.prog.info? 36).map (fun i => (i.zero, i.size, i.bytes)) = some (some (vv zero none 0), 4, 48) := by kernel_rfl
/-- The document's votes at block g, in the order in which they came; F are its blocks (the entries are others'). -/
structure Rs (w : World) (g : Nat) (F : List Nat) (view n : Int) (L : List Vt) : Prop where
  ex : ∃ (A : Option Addr) (c : Nat) (P : List Vp), P.map Vp.m = L ∧ Blk w g 29 [.int .i64 view, .int .i64 n, .slice A P.length c] ∧ Ow w 0 36 4 A P.length c (vrs P) ∧
    (∀ p ∈ P, Ow w 0 52 7 p.A p.m.es.length p.c (els p.m.es)) ∧ F = g :: bl A
section
variable {w w' : World} {g : Nat} {F T : List Nat} {view n : Int} {L : List Vt}
theorem Rs.kinds (h : Rs w g F view n L) : ∀ k ∈ F, ∃ t ys, Blk w k t ys ∧ (t = 29 ∨ t = 36) := by
  obtain ⟨A, c, P, _, hB, hO, hE, rfl⟩ := h.ex
  intro k hk
  rcases List.mem_cons.1 hk with rfl | hk
  · exact ⟨_, _, hB, .inl rfl⟩
  · obtain ⟨ys, hy⟩ := hO.blk (mem_bl.1 hk)
    exact ⟨_, _, hy, .inr rfl⟩
theorem Rs.not (h : Rs w g F view n L) {e : TypeId} (h1 : e ≠ 29) (h2 : e ≠ 36) : ∀ k ∈ F, ∃ t ys, Blk w k t ys ∧ t ≠ e := fun k hk => by
  obtain ⟨t, ys, hB, ht⟩ := h.kinds k hk
  refine ⟨t, ys, hB, ?_⟩
  rintro rfl
  rcases ht with ht | ht
  · exact h1 ht
  · exact h2 ht
theorem Rs.apart (h : Rs w g F view n L) {x : Nat} {e : TypeId} {xs : List Value} (K : Blk w x e xs) (h1 : e ≠ 29) (h2 : e ≠ 36) : x ∉ F := fun hx => by
  obtain ⟨t, ys, hB, hne⟩ := h.not h1 h2 x hx
  exact hB.ne K hne rfl
theorem Rs.self (h : Rs w g F view n L) : g ∈ F := by obtain ⟨A, c, P, _, hB, hO, hE, rfl⟩ := h.ex; exact List.mem_cons_self ..
theorem Rs.lt (h : Rs w g F view n L) : g < w.heap.size := by obtain ⟨A, c, P, _, hB, hO, hE, rfl⟩ := h.ex; exact hB.lt
/-- Behind a write of blocks of other types. -/
theorem Rs.touch (h : Rs w g F view n L) (ht : Touch T w w') (h1 : ∀ s ∈ T, ∃ t ys, Blk w s t ys ∧ t ≠ 29 ∧ t ≠ 36 ∧ t ≠ 52) : Rs w' g F view n L := by
  obtain ⟨A, c, P, hP, hB, hO, hE, rfl⟩ := h.ex
  refine ⟨A, c, P, hP, hB.touch ht (fun hm => ?_), hO.other ht (fun s hs => ?_), fun p hp => (hE p hp).other ht (fun s hs => ?_), rfl⟩
  · obtain ⟨t, ys, k1, k2, _⟩ := h1 g hm
    exact k1.ne hB k2 rfl
  · obtain ⟨t, ys, k1, _, k2, _⟩ := h1 s hs
    exact ⟨t, ys, k1, k2⟩
  · obtain ⟨t, ys, k1, _, _, k2⟩ := h1 s hs
    exact ⟨t, ys, k1, k2⟩
theorem Rs.past (h : Rs w g F view n L) (hb : Below w.heap.size w w') : Rs w' g F view n L := h.touch (T := []) (.of_below hb) (by simp)
theorem Rs.alloc (h : Rs w g F view n L) (o : Obj) : Rs (w.alloc o) g F view n L := h.past ((Below.refl _ _).alloc (Nat.le_refl _) _)
theorem Rs.open (h : Rs w g F view n L) : ∃ A c, w.cell? ⟨g, 0, none⟩ = some (.int .i64 view) ∧ w.cell? ⟨g, 1, none⟩ = some (.int .i64 n) ∧ w.cell? ⟨g, 2, none⟩ = some (.slice A L.length c) ∧
    ∀ i v, L[i]? = some v → ∃ b VA VC, A = some ⟨b, 0, none⟩ ∧ w.rangeAt b (i * 4) [.int .i64 v.fr, .int .i64 v.last, .slice VA v.es.length VC, .int .i64 v.com] ∧ Rd w w.heap.size VA VC 7 v.es.length (els v.es) := by
  obtain ⟨A, c, P, rfl, hB, hO, hE, rfl⟩ := h.ex
  have hl : (P.map Vp.m).length = P.length := by simp
  refine ⟨A, c, hB.cell (i := 0) rfl, hB.cell (i := 1) rfl, by rw [hl]; exact hB.cell (i := 2) rfl, fun i v hv => ?_⟩
  rw [List.getElem?_map] at hv
  obtain ⟨q, hq, rfl⟩ : ∃ q, P[i]? = some q ∧ q.m = v := by
    cases h : P[i]? with
    | none => rw [h] at hv; cases hv
    | some q => rw [h] at hv; exact ⟨q, rfl, by simpa using hv⟩
  have hi := (List.getElem?_eq_some_iff.1 hq).1
  obtain ⟨b, hA, -, -⟩ := hO.some (by omega)
  refine ⟨b, q.A, q.c, hA, fun j u hu => ?_, (hE q (List.mem_of_getElem? hq)).rd⟩
  have hj : j < 4 := (List.getElem?_eq_some_iff.1 hu).1
  exact (hO.cell hA (by rw [vrs_at hq hj]; exact hu)).1
end
theorem tsum_take {L : List Vt} {i : Nat} {v : Vt} (h : L[i]? = some v) : tsum (L.take (i + 1)) = tsum (L.take i) + 2 ^ (v.fr - 1).toNat := by
  rw [List.take_add_one, h]; exact tsum_snoc _ _
theorem tsum_le {L : List Vt} (h : ∀ x ∈ L, 1 ≤ x.fr ∧ x.fr ≤ 7) : ∀ i, tsum (L.take i) ≤ i * 64 := by
  intro i
  induction i with
  | zero => simp [tsum]
  | succ i ih =>
    cases hv : L[i]? with
    | none =>
      have : L.take (i + 1) = L.take i := by rw [List.take_add_one, hv]; simp
      rw [this]; omega
    | some v =>
      rw [tsum_take hv]
      have h1 := h v (List.mem_of_getElem? hv)
      have : 2 ^ (v.fr - 1).toNat ≤ 2 ^ 6 := Nat.pow_le_pow_right (by decide) (by omega)
      omega

set_option maxHeartbeats 4000000 in
set_option maxRecDepth 100000 in
theorem rvTeam_c (w : World) (g : Nat) (F : List Nat) (view n : Int) (L : List Vt) (h : Rs w g F view n L) (h1 : ∀ x ∈ L, 1 ≤ x.fr ∧ x.fr ≤ 7) (hl : L.length ≤ 7) :
    Calls Try.prog 17 #[.pointer (some ⟨g, 0, none⟩)] w fun e w' => e = .returned (.int .i64 (tsum L)) ∧ w = w' := by
  obtain ⟨A, c, q0, q1, q2, hat⟩ := h.open
  have HAT := Lib.hid hat
  have H1 := Lib.hid h1
  have HT := Lib.hid (tsum_le h1)
  clear h hat h1 q0 q1
  go_enter Try.func17, Try.ntmps17
  go_wp2_with fail
  go_loopw [3, 4, 5, 6] (fun s3 s4 _ _ wr => ∃ (i t : Nat), s4 = .int .i64 i ∧ i ≤ L.length ∧ s3 = .int .i64 t ∧ Hid (t = tsum (L.take i)) ∧ w = wr) (fun _ s4 _ _ _ => L.length - (intOf s4).toNat)
  case atStart => exact ⟨0, 0, rfl, by omega, rfl, Lib.hid rfl, rfl⟩
  case round =>
    obtain ⟨i, t, rfl, hi, rfl, ET, rfl⟩ := hrel
    have tl : t ≤ 448 := by have := HT.out i; rw [ET.out]; omega
    have tl' : (t : Int) ≤ 448 := by omega
    by_cases hin : i < L.length
    · have jn : (i : Int) < (L.length : Int) := by omega
      have hv : L[i]? = some L[i] := List.getElem?_eq_getElem hin
      obtain ⟨b, VA, VC, rfl, hr, -⟩ := HAT.out i _ hv
      have hf := H1.out _ (List.getElem_mem hin)
      have ET2 := Lib.hid (tsum_take hv)
      have p0 := hr 0 _ rfl
      obtain ⟨K, hK⟩ : ∃ K : Nat, L[i].fr = (K : Int) + 1 := ⟨(L[i].fr - 1).toNat, by omega⟩
      have K6 : (K : Int) ≤ 6 := by omega
      have EK := Lib.hid (show (L[i].fr - 1).toNat = K by omega)
      rw [hK] at p0
      simp only [Nat.add_zero] at p0
      clear hr hv hf hK
      go_wp2_with fail
      go_loopw [5, 6] (fun s5 s6 wx => ∃ (k p : Nat), s6 = .int .i64 ((k : Int) + 1) ∧ k ≤ K ∧ s5 = .int .i64 p ∧ Hid (p = 2 ^ k) ∧ w = wx) (fun _ s6 _ => K + 1 - (intOf s6).toNat)
      case atStart => exact ⟨0, 1, rfl, by omega, rfl, Lib.hid rfl, rfl⟩
      case round =>
        obtain ⟨k, p, rfl, hk, rfl, EP, rfl⟩ := hrel
        have pl : p ≤ 64 := by rw [EP.out]; exact Nat.pow_le_pow_right (n := 2) (by decide) (show k ≤ 6 by omega)
        have pl' : (p : Int) ≤ 64 := by omega
        by_cases hkk : k < K
        · have jk : (k : Int) + 1 < (K : Int) + 1 := by omega
          go_wp2_with fail
          go_roundw
          case rel => exact ⟨k + 1, p * 2, by go_num, by omega, by go_num, Lib.hid (by rw [EP.out, Nat.pow_succ]), trivial⟩
          case measure => simp [intOf]; omega
        · obtain rfl : k = K := by omega
          go_wp2_with fail
          go_roundw
          case rel => exact ⟨i + 1, t + p, by go_num, by omega, by go_num, Lib.hid (by rw [ET2.out, ET.out, EP.out, EK.out]), trivial⟩
          case measure => simp [intOf]; omega
    · obtain rfl : i = L.length := by omega
      have e1 : t = tsum L := by rw [ET.out, List.take_length]
      have E1 := Lib.hid e1
      clear e1
      go_wp2_with fail
      go_ret
      exact ⟨by rw [← E1.out]; rfl, rfl⟩
end Go.Proofs.Ytheeigbljjcbpaa
