/- The document's table: a slice of pairs at a block; contract of its Get. -/
import Derived.Test.YtapleleaogjcjaaDoorPlainTab
import Derived.Test.YtapleleaogjcjaaDoorRows
import Derived.Test.YtapleleaogjcjaaDoorOw
import Derived.Test.YtapleleaogjcjaaDoorTouch
import Derived.Test.YtapleleaogjcjaaDoorTabB
namespace Go.Proofs.YtapleleaogjcjaaDoor
open Go.RowKit PTab

/-- Pairs as cells. -/
def pcs (p : Pr) : List Value := [.string p.1, .string p.2]
def prs : List Pr → List Value
  | [] => []
  | p :: r => pcs p ++ prs r
theorem prs_length (L : List Pr) : (prs L).length = L.length * 2 := by
  induction L with
  | nil => rfl
  | cons p r ih => simp [prs, pcs, ih]; omega
theorem prs_append (a b : List Pr) : prs (a ++ b) = prs a ++ prs b := by
  induction a with
  | nil => rfl
  | cons p r ih => simp [prs, ih]
theorem prs_one (p : Pr) : prs [p] = pcs p := by simp [prs]
theorem prs_cells (L : List Pr) : ∀ u ∈ prs L, u.oneCell' = true := by
  induction L with
  | nil => simp [prs]
  | cons p r ih =>
    intro u hu
    rcases List.mem_append.1 (show u ∈ pcs p ++ prs r from hu) with h | h
    · simp [pcs] at h; rcases h with rfl | rfl <;> rfl
    · exact ih u h
theorem prs_at : ∀ {L : List Pr} {i : Nat} {p : Pr}, L[i]? = some p → (prs L)[i * 2]? = some (.string p.1) ∧ (prs L)[i * 2 + 1]? = some (.string p.2)
  | q :: r, 0, p, h => by simp at h; subst h; exact ⟨rfl, rfl⟩
  | q :: r, i + 1, p, h => by
    have := prs_at (L := r) (i := i) (by simpa using h)
    have e : (i + 1) * 2 = i * 2 + 2 := by omega
    rw [e]
    exact ⟨by simpa [prs, pcs] using this.1, by simpa [prs, pcs] using this.2⟩
theorem pair_info : (Tryd.prog.info? 42).map (fun i => (i.zero, i.size, i.bytes)) = some (some (.agg #[.string ⟨#[]⟩, .string ⟨#[]⟩]), 2, 32) := by kernel_rfl

/-- The document's table at block g holds L; F are its blocks. -/
structure Rt (w : World) (g : Nat) (F : List Nat) (L : List Pr) : Prop where
  ex : ∃ A c, Blk w g 29 [.slice A L.length c] ∧ Ow w 0 42 2 A L.length c (prs L) ∧ F = g :: bl A
section
variable {w w' : World} {g : Nat} {F S : List Nat} {L : List Pr}
theorem Rt.hi (h : Rt w g F L) : ∀ k ∈ F, k < w.heap.size := by
  obtain ⟨A, c, hB, hO, rfl⟩ := h.ex
  intro k hk
  rcases List.mem_cons.1 hk with rfl | hk
  · exact hB.lt
  · exact hO.hi k (mem_bl.1 hk)
theorem Rt.touch (h : Rt w g F L) (ht : Touch S w w') (hd : ∀ k ∈ S, k ∉ F) : Rt w' g F L := by
  obtain ⟨A, c, hB, hO, rfl⟩ := h.ex
  exact ⟨⟨A, c, hB.touch ht (fun hm => hd g hm (List.mem_cons_self ..)), hO.touch ht (fun s hs e => hd s hs (List.mem_cons_of_mem _ (mem_bl.2 e))), rfl⟩⟩
theorem Rt.past (h : Rt w g F L) (hb : Below w.heap.size w w') : Rt w' g F L := h.touch (S := []) (.of_below hb) (by simp)
theorem Rt.drew (h : Rt w g F L) : Rt w.drew g F L := ⟨h.ex⟩
theorem Rt.alloc (h : Rt w g F L) (o : Obj) : Rt (w.alloc o) g F L := h.past ((Below.refl _ _).alloc (Nat.le_refl _) _)
/-- What a call leaves that writes it. -/
structure RW (w w' : World) (g : Nat) (F : List Nat) (L : List Pr) : Prop where
  ex : ∃ F', Rt w' g F' L ∧ ∀ k ∈ F', k ∈ F ∨ w.heap.size ≤ k
  touch : Touch F w w'
theorem RW.same (h : Rt w g F L) (hb : Below w.heap.size w w') : RW w w' g F L := ⟨⟨F, h.past hb, fun _ hk => .inl hk⟩, .of_below hb⟩
theorem Rt.open (h : Rt w g F L) : ∃ A c, w.cell? ⟨g, 0, none⟩ = some (.slice A L.length c) ∧ Rd w w.heap.size A c 2 L.length (prs L) := by
  obtain ⟨A, c, hB, hO, rfl⟩ := h.ex
  exact ⟨A, c, hB.cell (i := 0) rfl, hO.rd⟩
end
/-- The cells of the pair at place i. -/
theorem Rd.pr {w : World} {B : Nat} {A : Option Addr} {c n : Nat} {L : List Pr} (h : Rd w B A c 2 n (prs L)) {i : Nat} (hi : i < n) :
    ∃ b o p, A = some ⟨b, o, none⟩ ∧ b < B ∧ L[i]? = some p ∧ w.cell? ⟨b, o + i * 2, none⟩ = some (.string p.1) ∧ w.cell? ⟨b, o + i * 2 + 1, none⟩ = some (.string p.2) := by
  obtain ⟨b, o, hA, hB, hc⟩ := h.2.2.2.2 (by omega)
  have hl := h.len
  rw [prs_length] at hl
  obtain ⟨p, hp⟩ : ∃ p, L[i]? = some p := ⟨_, List.getElem?_eq_getElem (show i < L.length by omega)⟩
  obtain ⟨t1, t2⟩ := prs_at hp
  exact ⟨b, o, p, hA, hB, hp, hc _ _ t1, by have := hc _ _ t2; rwa [← Nat.add_assoc] at this⟩

theorem get_take_none {L : List Pr} {k : ByteArray} {i : Nat} {p : Pr} (hp : L[i]? = some p) (h : get L k = get (L.drop i) k) (hn : eqb p.1 k = false) : get L k = get (L.drop (i + 1)) k := by
  obtain ⟨hi, rfl⟩ := List.getElem?_eq_some_iff.1 hp
  rw [h, List.drop_eq_getElem_cons hi]; simp [PTab.get, hn]
theorem get_hit {L : List Pr} {k : ByteArray} {i : Nat} {p : Pr} (hp : L[i]? = some p) (h : get L k = get (L.drop i) k) (hn : eqb p.1 k = true) : get L k = some p.2 := by
  obtain ⟨hi, rfl⟩ := List.getElem?_eq_some_iff.1 hp
  rw [h, List.drop_eq_getElem_cons hi]; simp [PTab.get, hn]

set_option maxHeartbeats 1000000 in
set_option maxRecDepth 100000 in
theorem rGet_c (w : World) (g : Nat) (F : List Nat) (L : List Pr) (h : Rt w g F L) (k : ByteArray) :
    Calls Tryd.prog 18 #[.pointer (some ⟨g, 0, none⟩), .string k] w fun x w' => x = .returned (.tuple #[.string ((get L k).getD ⟨#[]⟩), .bool (get L k).isSome]) ∧ Below w.heap.size w w' := by
  obtain ⟨A, c, d0, hR⟩ := h.open
  have hcap := hR.cap
  have hle := hR.le
  have hn : L.length ≤ 9223372036854775807 := by unfold maxLen at hcap; omega
  have R0 := Lib.hid hR
  have D0 := Lib.hid d0
  have LG := Lib.hid (World.block_lt_of_cell? w _ d0)
  clear h hR hcap hle d0
  obtain ⟨n, hL⟩ : ∃ n, L.length = n := ⟨_, rfl⟩
  rw [hL] at R0 D0 hn
  have HL := Lib.hid hL
  clear hL
  go_enter Tryd.func18, Tryd.ntmps18
  go_wp2_with fail
  go_loopw [6] (fun s6 wr => ∃ i : Nat, i ≤ n ∧ s6 = .int .i64 i ∧ Hid (get L k = get (L.drop i) k) ∧ Hid (Below w.heap.size w wr)) (fun s6 _ => n - (intOf s6).toNat)
  case atStart => exact ⟨0, by omega, rfl, Lib.hid (by rw [List.drop_zero]), Lib.hid (Below.refl _ _)⟩
  case round =>
    obtain ⟨i, hi, rfl, HP, BL⟩ := hrel
    have d0 := (BL.out.cell (p := ⟨g, 0, none⟩) LG.out).trans D0.out
    by_cases hlt : i < n
    · obtain ⟨b, o, p, rfl, -, hp, c1, c2⟩ := (R0.out.past BL.out).pr hlt
      cases hq : eqb p.1 k
      · have HP' := Lib.hid (get_take_none hp HP.out hq)
        have hq : (p.1.toList == k.toList) = false := hq
        clear hp
        go_wp2_with fail
        go_roundw
        case rel => exact ⟨i + 1, by omega, by go_num, HP', BL⟩
        case measure => simp [intOf]; omega
      · have HP' := Lib.hid (get_hit hp HP.out hq)
        have hq : (p.1.toList == k.toList) = true := hq
        clear hp
        go_wp2_with fail
        go_ret2
        exact ⟨by rw [HP'.out]; rfl, BL.out⟩
    · have HP' := Lib.hid (show get L k = none by rw [HP.out, List.drop_eq_nil_of_le (by rw [HL.out]; omega)]; rfl)
      go_wp2_with fail
      go_ret2
      exact ⟨by rw [HP'.out]; rfl, BL.out⟩
end Go.Proofs.YtapleleaogjcjaaDoor
