/- 'Qs': the program's quorum at block g; 'Rq': the document's own. -/
import Derived.Test.YtacipjdaiglnjaaGreatDoorSeg6
import Derived.Test.YtacipjdaiglnjaaGreatDoorSeg2
import Derived.Test.YtacipjdaiglnjaaGreatDoorSeg4
import Derived.BigRegion
import Derived.Deep.RegionWith
import Derived.Tactics2
import Derived.Test.YtacipjdaiglnjaaGreatDoorSeg3
import Derived.Laws.IdiomCopy
namespace Go.Proofs.YtacipjdaiglnjaaGreatDoor
open Go.RowKit PQuo

def qcs (n me : Int) (m : Nat) (H P : List Int) (last : Int) : List Value := [.int .i64 n, .int .i64 me, .int .i64 m] ++ (is H ++ (is P ++ [.int .i64 last]))
def Qs (w : World) (g : Nat) (n me : Int) (m : Nat) (H P : List Int) (last : Int) : Prop := Blk w g 226 (qcs n me m H P last)
/-- What holds of one that was made. -/
structure Qk (n me : Int) (m : Nat) (H P : List Int) (last : Int) : Prop where
  most : PTeam.most m n = true
  me : PTeam.has m me = true
  h : Ok m H 60
  p : Ok m P last
  l0 : 0 ≤ last
  l1 : last ≤ 1000000
theorem Qk.n {n me : Int} {m : Nat} {H P : List Int} {last : Int} (h : Qk n me m H P last) : 3 ≤ n ∧ n ≤ 7 ∧ m < 128 := ⟨(most_in h.most).1, (most_in h.most).2.1, (most_in h.most).2.2.1⟩

theorem is_get (H : List Int) {k : Nat} (hk : k < H.length) : (is H)[k]? = some (.int .i64 (H.getD k 0)) := by
  simp [is, List.getD_eq_getElem?_getD, List.getElem?_eq_getElem hk]
theorem is_set (H : List Int) (k : Nat) (x : Int) : (is H).set k (.int .i64 x) = is (H.set k x) := by
  unfold is; rw [List.map_set]
section
variable {n me : Int} {m : Nat} {H P : List Int} {last : Int}
theorem qcs_n : (qcs n me m H P last)[0]? = some (.int .i64 n) := rfl
theorem qcs_me : (qcs n me m H P last)[1]? = some (.int .i64 me) := rfl
theorem qcs_m : (qcs n me m H P last)[2]? = some (.int .i64 m) := rfl
theorem qcs_h (hl : H.length = 7) {k : Nat} (hk : k < 7) : (qcs n me m H P last)[3 + k]? = some (.int .i64 (H.getD k 0)) := by
  unfold qcs
  rw [List.getElem?_append_right (by simp)]
  have e : 3 + k - [Value.int .i64 n, .int .i64 me, .int .i64 m].length = k := by simp
  rw [e, List.getElem?_append_left (by rw [is_length]; omega), is_get H (by omega)]
theorem qcs_p (hl : H.length = 7) (pl : P.length = 7) {k : Nat} (hk : k < 7) : (qcs n me m H P last)[10 + k]? = some (.int .i64 (P.getD k 0)) := by
  unfold qcs
  rw [List.getElem?_append_right (by simp; omega), List.getElem?_append_right (by simp [is_length]; omega)]
  have e : 10 + k - [Value.int .i64 n, .int .i64 me, .int .i64 m].length - (is H).length = k := by rw [is_length, hl]; simp; omega
  rw [e, List.getElem?_append_left (by rw [is_length]; omega), is_get P (by omega)]
theorem qcs_last (hl : H.length = 7) (pl : P.length = 7) : (qcs n me m H P last)[17]? = some (.int .i64 last) := by
  unfold qcs
  rw [List.getElem?_append_right (by simp), List.getElem?_append_right (by simp [is_length]; omega), List.getElem?_append_right (by simp [is_length]; omega)]
  have e : 17 - [Value.int .i64 n, .int .i64 me, .int .i64 m].length - (is H).length - (is P).length = 0 := by rw [is_length, is_length, hl, pl]; rfl
  rw [e]; rfl
theorem qset_h (hl : H.length = 7) {k : Nat} (hk : k < 7) (x : Int) : (qcs n me m H P last).set (3 + k) (.int .i64 x) = qcs n me m (H.set k x) P last := by
  unfold qcs
  rw [List.set_append_right _ _ (by simp)]
  have e : 3 + k - [Value.int .i64 n, .int .i64 me, .int .i64 m].length = k := by simp
  rw [e, List.set_append_left _ _ (by rw [is_length]; omega), is_set]
theorem qset_p (hl : H.length = 7) (pl : P.length = 7) {k : Nat} (hk : k < 7) (x : Int) : (qcs n me m H P last).set (10 + k) (.int .i64 x) = qcs n me m H (P.set k x) last := by
  unfold qcs
  rw [List.set_append_right _ _ (by simp; omega), List.set_append_right _ _ (by simp [is_length]; omega)]
  have e : 10 + k - [Value.int .i64 n, .int .i64 me, .int .i64 m].length - (is H).length = k := by rw [is_length, hl]; simp; omega
  rw [e, List.set_append_left _ _ (by rw [is_length]; omega), is_set]
theorem qset_last (hl : H.length = 7) (pl : P.length = 7) (x : Int) : (qcs n me m H P last).set 17 (.int .i64 x) = qcs n me m H P x := by
  unfold qcs
  rw [List.set_append_right _ _ (by simp), List.set_append_right _ _ (by simp [is_length]; omega), List.set_append_right _ _ (by simp [is_length]; omega)]
  have e : 17 - [Value.int .i64 n, .int .i64 me, .int .i64 m].length - (is H).length - (is P).length = 0 := by rw [is_length, is_length, hl, pl]; rfl
  rw [e]; rfl
end
section
variable {w w' : World} {g : Nat} {n me : Int} {m : Nat} {H P : List Int} {last : Int} {S : List Nat}
theorem Qs.touch (h : Qs w g n me m H P last) (ht : Touch S w w') (hg : g ∉ S) : Qs w' g n me m H P last := Blk.touch h ht hg
theorem Qs.past (h : Qs w g n me m H P last) (hb : Below w.heap.size w w') : Qs w' g n me m H P last := Blk.past h hb
theorem Qs.lt (h : Qs w g n me m H P last) : g < w.heap.size := Blk.lt h
theorem Qs.ne {x : Nat} {e : TypeId} {xs : List Value} (h : Qs w g n me m H P last) (K : Blk w x e xs) (he : e ≠ 226) : x ≠ g := K.ne h he
end
/-- The list of seven by its members. -/
theorem seven (H : List Int) (h : H.length = 7) : ∃ a b c d e f g, H = [a, b, c, d, e, f, g] := by
  rcases H with _ | ⟨a, _ | ⟨b, _ | ⟨c, _ | ⟨d, _ | ⟨e, _ | ⟨f, _ | ⟨g, _ | ⟨i, H⟩⟩⟩⟩⟩⟩⟩⟩ <;> simp at h
  exact ⟨a, b, c, d, e, f, g, rfl⟩
end Go.Proofs.YtacipjdaiglnjaaGreatDoor

/- Proofs that one is up to date, as plain data: the last question, how far none is answered any more, when the last 64 were asked, the one that counts; the document's list beside it. No program is named here. -/
namespace Go.Proofs.YtacipjdaiglnjaaGreatDoor.PProof

structure Ok (last cl : Int) (A : List Int) (ck : Int) : Prop where
  len : A.length = 64
  c0 : 0 ≤ cl
  cl : cl ≤ last
  l1 : last ≤ 2199023255552
  a : ∀ i, i < 64 → 0 ≤ A.getD i 0 ∧ A.getD i 0 ≤ 2199023255552
  k : 0 ≤ ck ∧ ck ≤ 2199023255552
def pl (n : Int) : Nat := n.toNat % 64
theorem pl_lt (n : Int) : pl n < 64 := Nat.mod_lt _ (by omega)
def opn (last cl n : Int) : Bool := decide (cl < n ∧ n ≤ last ∧ last - n < 64)
def askA (A : List Int) (last x : Int) : List Int := A.set (pl (last + 1)) x
def tm (A : List Int) (n : Int) : Int := A.getD (pl n) 0
def left (p : Bool) (ck cm t c : Int) : Int := if p = true ∧ ck ≤ t ∧ cm ≤ c ∧ t - ck < 12 then 12 - (t - ck) else 0

theorem getD_set (A : List Int) (i j : Nat) (x : Int) (h : i < A.length) : (A.set i x).getD j 0 = if i = j then x else A.getD j 0 := by
  rw [List.getD_eq_getElem?_getD, List.getD_eq_getElem?_getD, List.getElem?_set]
  split
  · next e => rfl
  · rfl
theorem Ok.new {b : Int} (h0 : 0 ≤ b) (h1 : b ≤ 2199023255552) : Ok b b (List.replicate 64 0) 0 :=
  ⟨by rfl, h0, Int.le_refl _, h1, fun i hi => by
    have : (List.replicate 64 (0 : Int)).getD i 0 = 0 := by
      rw [List.getD_eq_getElem?_getD, List.getElem?_replicate]; split <;> rfl
    rw [this]; omega, by omega⟩
theorem Ok.ask {last cl ck : Int} {A : List Int} (h : Ok last cl A ck) {x : Int} (hx : 0 ≤ x ∧ x ≤ 2199023255552) (hl : last < 2199023255552) : Ok (last + 1) cl (askA A last x) ck :=
  ⟨by unfold askA; rw [List.length_set]; exact h.len, h.c0, by have := h.cl; omega, by omega, fun i hi => by
    unfold askA
    rw [getD_set _ _ _ _ (by rw [h.len]; exact pl_lt _)]
    split
    · exact hx
    · exact h.a i hi, h.k⟩
theorem Ok.get {last cl ck : Int} {A : List Int} (h : Ok last cl A ck) {n : Int} (ho : opn last cl n = true) : Ok last n A (tm A n) := by
  have ho := of_decide_eq_true ho
  exact ⟨h.len, by have := h.c0; omega, by omega, h.l1, h.a, h.a _ (pl_lt _)⟩
theorem Ok.drop {last cl ck : Int} {A : List Int} (h : Ok last cl A ck) : Ok last last A ck := ⟨h.len, by have := h.c0; have := h.cl; omega, Int.le_refl _, h.l1, h.a, h.k⟩
theorem left_no {p : Bool} {ck cm t c : Int} (h : ¬ (p = true ∧ ck ≤ t ∧ cm ≤ c ∧ t - ck < 12)) : left p ck cm t c = 0 := if_neg h
theorem left_yes {p : Bool} {ck cm t c : Int} (h : p = true ∧ ck ≤ t ∧ cm ≤ c ∧ t - ck < 12) : left p ck cm t c = 12 - (t - ck) := if_pos h

/-- How long its list is behind one question more. -/
def nx (m : Nat) : Nat := if m = 64 then 64 else m + 1
/-- The document's state (its list m long; num, rk, rc what counts) beside the program's. -/
structure Rel (last cl : Int) (p : Bool) (ck cm : Int) (m : Nat) (num rk rc : Int) : Prop where
  h : ∃ D : Int, 0 ≤ D ∧ D ≤ last ∧ (m : Int) = min 64 (last - D) ∧ cl = max D num
  n0 : 0 ≤ num
  n1 : num ≤ last
  no : p = false → num = 0
  yes : p = true → 0 < num ∧ rk = ck ∧ rc = cm
def rop (last : Int) (m : Nat) (num x : Int) : Bool := decide (last - m < x ∧ x ≤ last ∧ num < x)
theorem Rel.op {last cl ck cm num rk rc : Int} {p : Bool} {m : Nat} (h : Rel last cl p ck cm m num rk rc) (x : Int) : rop last m num x = opn last cl x := by
  obtain ⟨D, d1, d2, d3, d4⟩ := h.h
  unfold rop opn
  exact decide_eq_decide.2 (by omega)
theorem Rel.left {last cl ck cm num rk rc : Int} {p : Bool} {m : Nat} (h : Rel last cl p ck cm m num rk rc) (t c : Int) : left (decide (num ≠ 0)) rk rc t c = left p ck cm t c := by
  cases p
  · have := h.no rfl
    subst this
    rw [left_no (by simp), left_no (by simp)]
  · obtain ⟨a, b, c⟩ := h.yes rfl
    subst b c
    rw [show decide (num ≠ 0) = true from decide_eq_true (by omega)]
theorem Rel.new {b : Int} (h : 0 ≤ b) : Rel b b false 0 0 0 0 0 0 := ⟨⟨b, by omega, by omega, by omega, by omega⟩, by omega, by omega, fun _ => rfl, fun h => by cases h⟩
theorem Rel.ask {last cl ck cm num rk rc : Int} {p : Bool} {m : Nat} (h : Rel last cl p ck cm m num rk rc) : Rel (last + 1) cl p ck cm (nx m) num rk rc := by
  unfold nx
  obtain ⟨D, d1, d2, d3, d4⟩ := h.h
  refine ⟨⟨D, d1, by omega, ?_, d4⟩, h.n0, by have := h.n1; omega, h.no, h.yes⟩
  split <;> omega
theorem Rel.get {last cl ck cm num rk rc : Int} {p : Bool} {m : Nat} (h : Rel last cl p ck cm m num rk rc) (A : List Int) (x c : Int) (ho : opn last cl x = true) (h0 : 0 ≤ cl) : Rel last x true (tm A x) c m x (tm A x) c := by
  have ho := of_decide_eq_true ho
  obtain ⟨D, d1, d2, d3, d4⟩ := h.h
  exact ⟨⟨D, d1, d2, d3, by omega⟩, by omega, by omega, (fun h => by cases h), fun _ => ⟨by omega, rfl, rfl⟩⟩
theorem Rel.drop {last cl ck cm num rk rc : Int} {p : Bool} {m : Nat} (h : Rel last cl p ck cm m num rk rc) (rk' rc' : Int) : Rel last last false ck cm 0 0 rk' rc' := by
  have := h.n0; have := h.n1
  exact ⟨⟨last, by omega, by omega, by omega, by omega⟩, by omega, by omega, fun _ => rfl, fun h => by cases h⟩
end Go.Proofs.YtacipjdaiglnjaaGreatDoor.PProof

/- 'Pf': the program's proof at block g; 'Og': a slice of the call's own that may begin behind its block's head; 'Rp': the document's own proof. -/
namespace Go.Proofs.YtacipjdaiglnjaaGreatDoor
open Go.RowKit

def pcs (last cl : Int) (A : List Int) (p : Bool) (ck cm : Int) : List Value := [.int .i64 last, .int .i64 cl] ++ (is A ++ [.bool p, .int .i64 ck, .int .i64 cm])
def Pf (w : World) (g : Nat) (last cl : Int) (A : List Int) (p : Bool) (ck cm : Int) : Prop := Blk w g 153 (pcs last cl A p ck cm)
section
variable {last cl ck cm : Int} {A : List Int} {p : Bool}
theorem pcs_last : (pcs last cl A p ck cm)[0]? = some (.int .i64 last) := rfl
theorem pcs_cl : (pcs last cl A p ck cm)[1]? = some (.int .i64 cl) := rfl
theorem pcs_a (hl : A.length = 64) {k : Nat} (hk : k < 64) : (pcs last cl A p ck cm)[2 + k]? = some (.int .i64 (A.getD k 0)) := by
  unfold pcs
  rw [List.getElem?_append_right (by simp)]
  have e : 2 + k - [Value.int .i64 last, .int .i64 cl].length = k := by simp
  rw [e, List.getElem?_append_left (by rw [is_length]; omega)]
  simp [is, List.getD_eq_getElem?_getD, List.getElem?_eq_getElem (show k < A.length by omega)]
theorem pcs_p (hl : A.length = 64) : (pcs last cl A p ck cm)[66]? = some (.bool p) := by
  unfold pcs
  rw [List.getElem?_append_right (by simp), List.getElem?_append_right (by simp [is_length]; omega)]
  have e : 66 - [Value.int .i64 last, .int .i64 cl].length - (is A).length = 0 := by rw [is_length, hl]; rfl
  rw [e]; rfl
theorem pcs_ck (hl : A.length = 64) : (pcs last cl A p ck cm)[67]? = some (.int .i64 ck) := by
  unfold pcs
  rw [List.getElem?_append_right (by simp), List.getElem?_append_right (by simp [is_length]; omega)]
  have e : 67 - [Value.int .i64 last, .int .i64 cl].length - (is A).length = 1 := by rw [is_length, hl]; rfl
  rw [e]; rfl
theorem pcs_cm (hl : A.length = 64) : (pcs last cl A p ck cm)[68]? = some (.int .i64 cm) := by
  unfold pcs
  rw [List.getElem?_append_right (by simp), List.getElem?_append_right (by simp [is_length]; omega)]
  have e : 68 - [Value.int .i64 last, .int .i64 cl].length - (is A).length = 2 := by rw [is_length, hl]; rfl
  rw [e]; rfl
theorem pset_cl (x : Int) : (pcs last cl A p ck cm).set 1 (.int .i64 x) = pcs last x A p ck cm := rfl
theorem pset_a (hl : A.length = 64) {k : Nat} (hk : k < 64) (x : Int) : (pcs last cl A p ck cm).set (2 + k) (.int .i64 x) = pcs last cl (A.set k x) p ck cm := by
  unfold pcs
  rw [List.set_append_right _ _ (by simp)]
  have e : 2 + k - [Value.int .i64 last, .int .i64 cl].length = k := by simp
  rw [e, List.set_append_left _ _ (by rw [is_length]; omega)]
  unfold is
  rw [List.map_set]
theorem pset_p (hl : A.length = 64) (x : Bool) : (pcs last cl A p ck cm).set 66 (.bool x) = pcs last cl A x ck cm := by
  unfold pcs
  rw [List.set_append_right _ _ (by simp), List.set_append_right _ _ (by simp [is_length]; omega)]
  have e : 66 - [Value.int .i64 last, .int .i64 cl].length - (is A).length = 0 := by rw [is_length, hl]; rfl
  rw [e]; rfl
theorem pset_ck (hl : A.length = 64) (x : Int) : (pcs last cl A p ck cm).set 67 (.int .i64 x) = pcs last cl A p x cm := by
  unfold pcs
  rw [List.set_append_right _ _ (by simp), List.set_append_right _ _ (by simp [is_length]; omega)]
  have e : 67 - [Value.int .i64 last, .int .i64 cl].length - (is A).length = 1 := by rw [is_length, hl]; rfl
  rw [e]; rfl
theorem pset_cm (hl : A.length = 64) (x : Int) : (pcs last cl A p ck cm).set 68 (.int .i64 x) = pcs last cl A p ck x := by
  unfold pcs
  rw [List.set_append_right _ _ (by simp), List.set_append_right _ _ (by simp [is_length]; omega)]
  have e : 68 - [Value.int .i64 last, .int .i64 cl].length - (is A).length = 2 := by rw [is_length, hl]; rfl
  rw [e]; rfl
end
section
variable {w w' : World} {g : Nat} {last cl ck cm : Int} {A : List Int} {p : Bool} {S : List Nat}
theorem Pf.touch (h : Pf w g last cl A p ck cm) (ht : Touch S w w') (hg : g ∉ S) : Pf w' g last cl A p ck cm := Blk.touch h ht hg
theorem Pf.past (h : Pf w g last cl A p ck cm) (hb : Below w.heap.size w w') : Pf w' g last cl A p ck cm := Blk.past h hb
theorem Pf.lt (h : Pf w g last cl A p ck cm) : g < w.heap.size := Blk.lt h
end

end Go.Proofs.YtacipjdaiglnjaaGreatDoor

/- Contracts of package proof: New, Ask, Get, Left, Good, Drop. -/
namespace Go.Proofs.YtacipjdaiglnjaaGreatDoor
open Go.RowKit PProof

theorem place_c (w : World) (n : Int) (h0 : 0 ≤ n) (h1 : n ≤ 2199023255552) : Calls Tryz.prog 151 #[.int .i64 n] w fun e w' => e = .returned (.int .u64 (pl n : Nat)) ∧ w = w' := by
  have H := Lib.hid (show ((pl n : Nat) : Int) = n % 64 by unfold pl; omega)
  have H2 := Lib.hid (show n.tmod 64 = n % 64 from Int.tmod_eq_emod_of_nonneg h0)
  go_enter Tryz.func151, Tryz.ntmps151
  go_wp2_with fail
  go_ret
  refine ⟨?_, rfl⟩
  rw [H.out]
  first | rfl | rw [← H2.out]

/-- A proof's cells, all zero. -/
def pz : List Value := pcs 0 0 (List.replicate 64 0) false 0 0
theorem pz_ne : (pz.toArray = #[]) = False := by simp [pz, pcs]
theorem pz_sz : (pz.toArray.size < 2) = False := by simp [pz, pcs, is]
theorem pz_set (b : Int) : (pz.toArray.setIfInBounds 0 (.int .i64 b)).setIfInBounds 1 (.int .i64 b) = (pcs b b (List.replicate 64 0) false 0 0).toArray := by
  rw [List.setIfInBounds_toArray, List.setIfInBounds_toArray]; rfl
theorem prf_zero (w : World) : (zeroValue 153).run Tryz.prog w = .ok (.agg pz.toArray) w := by
  have : (Tryz.prog.info? 153).map (·.zero) = some (some (.agg pz.toArray)) := by kernel_rfl
  cases hq : Tryz.prog.info? 153 with
  | none => simp [hq] at this
  | some i =>
    simp [hq] at this
    simp [zeroValue, typeInfo, hq, this]
theorem pnew_c (w : World) (b : Int) : Calls Tryz.prog 51 #[.int .i64 b] w fun e w' => e = .returned (.pointer (some ⟨w.heap.size, 0, none⟩)) ∧ Pf w' w.heap.size b b (List.replicate 64 0) false 0 0 ∧ Below w.heap.size w w' := by
  have hz := prf_zero
  have hn := pz_ne
  have hs := pz_set
  have hq := pz_sz
  go_enter Tryz.func51, Tryz.ntmps51
  go_wp2_with fail
  go_ret
  exact ⟨rfl, Blk.new w _ _, (Below.refl _ _).alloc (Nat.le_refl _) _⟩

section
variable (w : World) (g : Nat) (last cl : Int) (A : List Int) (p : Bool) (ck cm : Int)
set_option maxRecDepth 100000 in
theorem pask_c (h : Pf w g last cl A p ck cm) (hk : Ok last cl A ck) (x : Int) (hx : 0 ≤ x ∧ x ≤ 2199023255552) (hl : last < 2199023255552) :
    Calls Tryz.prog 114 #[.pointer (some ⟨g, 0, none⟩), .int .i64 x] w fun e w' => e = .returned (.int .i64 (last + 1)) ∧ Pf w' g (last + 1) cl (askA A last x) p ck cm ∧ Ok (last + 1) cl (askA A last x) ck ∧ Touch [g] w w' := by
  have c0 := Blk.cell h pcs_last
  have f0 := Blk.free h 0
  have hl0 : 0 ≤ last := by have := hk.c0; have := hk.cl; omega
  have S1 := Lib.hid (show Pf (w.setCell ⟨g, 0, none⟩ (.int .i64 (last + 1))) g (last + 1) cl A p ck cm from Blk.set h 0 (.int .i64 (last + 1)))
  have T1 := Lib.hid (show Touch [g] w (w.setCell ⟨g, 0, none⟩ (.int .i64 (last + 1))) from (Touch.refl [g] w).cell (List.mem_singleton.2 rfl) _ _)
  have K1 := Lib.hid (hk.ask hx hl)
  have HL := Lib.hid hk.len
  clear h hk hx
  go_enter Tryz.func114, Tryz.ntmps114
  go_wp2_with fail
  clear c0 f0
  generalize w.setCell ⟨g, 0, none⟩ (.int .i64 (last + 1)) = w1 at *
  have hk6 := pl_lt (last + 1)
  have HP := Lib.hid (show askA A last x = A.set (pl (last + 1)) x from rfl)
  have PC := Lib.hid (fun w => place_c w (last + 1) (by omega) (by omega))
  obtain ⟨k, hkk⟩ : ∃ k, pl (last + 1) = k := ⟨_, rfl⟩
  rw [hkk] at hk6 HP PC
  clear hkk
  have c0 := Blk.cell S1.out pcs_last
  have c2 := Blk.cell S1.out (pcs_a HL.out hk6)
  have f2 := Blk.free S1.out (2 + k)
  generalize A.getD k 0 = v at c2
  go_region_with (go_at_call 151; refine (PC.out _).mono ?_; rintro e w2 ⟨rfl, rfl⟩)
  have S2 := Lib.hid (show Pf (w1.setCell ⟨g, 2 + k, none⟩ (.int .i64 x)).drew g (last + 1) cl (A.set k x) p ck cm by
    have := Blk.set S1.out (2 + k) (.int .i64 x)
    rw [pset_a HL.out hk6] at this
    exact this)
  have T2 := Lib.hid (show Touch [g] w (w1.setCell ⟨g, 2 + k, none⟩ (.int .i64 x)).drew from (T1.out.cell (List.mem_singleton.2 rfl) _ _).drew)
  clear c0 c2 f2
  generalize (w1.setCell ⟨g, 2 + k, none⟩ (.int .i64 x)).drew = w2 at *
  have c0 := Blk.cell S2.out pcs_last
  go_wp2_with fail
  go_ret
  rw [HP.out]
  exact ⟨rfl, S2.out, by rw [← HP.out]; exact K1.out, T2.out⟩

theorem popn_c (h : Pf w g last cl A p ck cm) (hk : Ok last cl A ck) (x : Int) : Calls Tryz.prog 150 #[.pointer (some ⟨g, 0, none⟩), .int .i64 x] w fun e w' => e = .returned (.bool (opn last cl x)) ∧ w = w' := by
  have c0 := Blk.cell h pcs_last
  have c1 := Blk.cell h pcs_cl
  have h0 := hk.c0
  have h1 := hk.cl
  have h2 := hk.l1
  clear h hk
  rcases (by omega : x ≤ cl ∨ (cl < x ∧ last < x) ∨ (cl < x ∧ x ≤ last)) with k | ⟨k, k2⟩ | ⟨k, k2⟩
  · have H := Lib.hid (show opn last cl x = false from decide_eq_false (by omega))
    go_enter Tryz.func150, Tryz.ntmps150
    go_wp2_with fail
    go_ret
    exact ⟨by rw [H.out]; rfl, rfl⟩
  · have H := Lib.hid (show opn last cl x = false from decide_eq_false (by omega))
    go_enter Tryz.func150, Tryz.ntmps150
    go_wp2_with fail
    go_ret
    exact ⟨by rw [H.out]; rfl, rfl⟩
  · by_cases k3 : last - x < 64
    · have H := Lib.hid (show opn last cl x = true from decide_eq_true (by omega))
      go_enter Tryz.func150, Tryz.ntmps150
      go_wp2_with fail
      go_ret
      exact ⟨by rw [H.out]; rfl, rfl⟩
    · have H := Lib.hid (show opn last cl x = false from decide_eq_false (by omega))
      go_enter Tryz.func150, Tryz.ntmps150
      go_wp2_with fail
      go_ret
      exact ⟨by rw [H.out]; rfl, rfl⟩
theorem pget_no (h : Pf w g last cl A p ck cm) (hk : Ok last cl A ck) (x c : Int) (ho : opn last cl x = false) : Calls Tryz.prog 97 #[.pointer (some ⟨g, 0, none⟩), .int .i64 x, .int .i64 c] w fun e w' => e = .returned (.bool false) ∧ w = w' := by
  have HO := Lib.hid ho
  clear ho
  go_enter Tryz.func97, Tryz.ntmps97
  go_wp2_with fail
  refine (popn_c w g last cl A p ck cm h hk x).mono ?_
  rw [HO.out]
  rintro e w' ⟨rfl, rfl⟩
  go_wp2_with fail
  go_ret
  exact ⟨rfl, rfl⟩
set_option maxRecDepth 100000 in
theorem pget_yes (h : Pf w g last cl A p ck cm) (hk : Ok last cl A ck) (x c : Int) (ho : opn last cl x = true) :
    Calls Tryz.prog 97 #[.pointer (some ⟨g, 0, none⟩), .int .i64 x, .int .i64 c] w fun e w' => e = .returned (.bool true) ∧ Pf w' g last x A true (tm A x) c ∧ Ok last x A (tm A x) ∧ Touch [g] w w' := by
  have HO := Lib.hid ho
  have HK := Lib.hid hk
  have HS := Lib.hid h
  have KG := Lib.hid (hk.get ho)
  have hx0 : 0 ≤ x ∧ x ≤ 2199023255552 := by have := of_decide_eq_true ho; have := hk.c0; have := hk.l1; omega
  have hk6 := pl_lt x
  have PC := Lib.hid (fun w => place_c w x hx0.1 hx0.2)
  have HT := Lib.hid (show A.getD (pl x) 0 = tm A x from rfl)
  obtain ⟨k, hkk⟩ : ∃ k, pl x = k := ⟨_, rfl⟩
  rw [hkk] at hk6 PC HT
  clear hkk ho h hk hx0
  have c2 := Blk.cell HS.out (pcs_a HK.out.len hk6)
  rw [HT.out] at c2
  obtain ⟨v, hv⟩ : ∃ v, tm A x = v := ⟨_, rfl⟩
  rw [hv] at c2 KG ⊢
  clear hv HT
  go_enter Tryz.func97, Tryz.ntmps97
  go_wp2_with fail
  refine (popn_c w g last cl A p ck cm HS.out HK.out x).mono ?_
  rw [HO.out]
  rintro e w' ⟨rfl, rfl⟩
  have c66 := Blk.cell HS.out (pcs_p HK.out.len)
  have c67 := Blk.cell HS.out (pcs_ck HK.out.len)
  have c68 := Blk.cell HS.out (pcs_cm HK.out.len)
  have c1 := Blk.cell HS.out pcs_cl
  have f2 := Blk.free HS.out (2 + k)
  have f66 := Blk.free HS.out 66
  have f67 := Blk.free HS.out 67
  have f68 := Blk.free HS.out 68
  have f1 := Blk.free HS.out 1
  go_wp2_with fail
  go_region_with (go_at_call 151; refine (PC.out _).mono ?_; rintro e w2 ⟨rfl, rfl⟩)
  go_wp2_with fail
  go_ret
  refine ⟨rfl, ?_, KG.out, (((((Touch.refl [g] w).cell (List.mem_singleton.2 rfl) _ _).cell (List.mem_singleton.2 rfl) _ _).cell (List.mem_singleton.2 rfl) _ _).drew.cell (List.mem_singleton.2 rfl) _ _)⟩
  have h3 := Blk.set (Blk.set (Blk.set HS.out 66 (.bool true)) 67 (.int .i64 v)) 68 (.int .i64 c)
  have h4 := Blk.set (Blk.drew h3) 1 (.int .i64 x)
  rw [pset_p HK.out.len, pset_ck HK.out.len, pset_cm HK.out.len, pset_cl] at h4
  exact h4
theorem pleft_c (h : Pf w g last cl A p ck cm) (hk : Ok last cl A ck) (t c : Int) (ht : 0 ≤ t ∧ t ≤ 2199023255552) : Calls Tryz.prog 77 #[.pointer (some ⟨g, 0, none⟩), .int .i64 t, .int .i64 c] w fun e w' => e = .returned (.int .i64 (left p ck cm t c)) ∧ w = w' := by
  have c66 := Blk.cell h (pcs_p hk.len)
  have c67 := Blk.cell h (pcs_ck hk.len)
  have c68 := Blk.cell h (pcs_cm hk.len)
  have h0 := hk.k
  clear h hk
  cases p
  · have H := Lib.hid (show left false ck cm t c = 0 from left_no (by simp))
    go_enter Tryz.func77, Tryz.ntmps77
    go_wp2_with fail
    go_ret
    exact ⟨by rw [H.out]; rfl, rfl⟩
  · rcases (by omega : t < ck ∨ (ck ≤ t ∧ c < cm) ∨ (ck ≤ t ∧ cm ≤ c ∧ 12 ≤ t - ck) ∨ (ck ≤ t ∧ cm ≤ c ∧ t - ck < 12)) with k | ⟨k, k2⟩ | ⟨k, k2, k3⟩ | ⟨k, k2, k3⟩
    · have H := Lib.hid (show left true ck cm t c = 0 from left_no (by omega))
      go_enter Tryz.func77, Tryz.ntmps77
      go_wp2_with fail
      go_ret
      exact ⟨by rw [H.out]; rfl, rfl⟩
    · have H := Lib.hid (show left true ck cm t c = 0 from left_no (by omega))
      go_enter Tryz.func77, Tryz.ntmps77
      go_wp2_with fail
      go_ret
      exact ⟨by rw [H.out]; rfl, rfl⟩
    · have H := Lib.hid (show left true ck cm t c = 0 from left_no (by omega))
      go_enter Tryz.func77, Tryz.ntmps77
      go_wp2_with fail
      go_ret
      exact ⟨by rw [H.out]; rfl, rfl⟩
    · have H := Lib.hid (show left true ck cm t c = 12 - (t - ck) from left_yes ⟨rfl, k, k2, k3⟩)
      go_enter Tryz.func77, Tryz.ntmps77
      go_wp2_with fail
      go_ret
      exact ⟨by rw [H.out]; rfl, rfl⟩
theorem pgood_c (h : Pf w g last cl A p ck cm) (hk : Ok last cl A ck) (t c : Int) (ht : 0 ≤ t ∧ t ≤ 2199023255552) : Calls Tryz.prog 37 #[.pointer (some ⟨g, 0, none⟩), .int .i64 t, .int .i64 c] w fun e w' => e = .returned (.bool (decide (0 < left p ck cm t c))) ∧ w = w' := by
  have HL := Lib.hid (pleft_c w g last cl A p ck cm h hk t c ht)
  generalize left p ck cm t c = v at *
  go_enter Tryz.func37, Tryz.ntmps37
  go_wp2_with fail
  refine HL.out.mono ?_
  rintro e w' ⟨rfl, rfl⟩
  go_wp2_with fail
  go_ret
  exact ⟨rfl, rfl⟩
theorem pdrop_c (h : Pf w g last cl A p ck cm) (hk : Ok last cl A ck) : Calls Tryz.prog 167 #[.pointer (some ⟨g, 0, none⟩)] w fun e w' => e = .returned (.tuple #[]) ∧ Pf w' g last last A false ck cm ∧ Touch [g] w w' := by
  have c0 := Blk.cell h pcs_last
  have c1 := Blk.cell h pcs_cl
  have c66 := Blk.cell h (pcs_p hk.len)
  have f1 := Blk.free h 1
  have f66 := Blk.free h 66
  have HS := Lib.hid h
  have HL := Lib.hid hk.len
  clear h hk
  go_enter Tryz.func167, Tryz.ntmps167
  go_wp2_with fail
  go_end0
  refine ⟨rfl, ?_, ((Touch.refl [g] w).cell (List.mem_singleton.2 rfl) _ _).cell (List.mem_singleton.2 rfl) _ _⟩
  have := Blk.set (Blk.set HS.out 1 (.int .i64 last)) 66 (.bool false)
  rw [pset_cl, pset_p HL.out] at this
  exact this
end
end Go.Proofs.YtacipjdaiglnjaaGreatDoor

/- What waits till it stands fast, as plain data. No program is named here. -/
namespace Go.Proofs.YtacipjdaiglnjaaGreatDoor.PPend
open PEnt

/-- The entry with the next number; what is left of L when the entries l were heard. -/
def nxt (fr boot seq ord lev : Int) (d : ByteArray) : Ent := ⟨fr, boot, seq + 1, ord, lev, 0, d⟩
def left (l L : List Ent) : List Ent := L.filter (fun e => !PLog.has l e)
def zeros (n : Nat) : List Ent := List.replicate n ⟨0, 0, 0, 0, 0, 0, ⟨#[]⟩⟩
theorem left_le (l L : List Ent) : (left l L).length ≤ L.length := List.length_filter_le _ _
theorem left_nil (L : List Ent) : left [] L = L := List.filter_eq_self.2 fun e _ => by simp [PLog.has]

/-- In place: V is W, where the first j were read and those of them that stay stand at the head. -/
structure Mid (p : Ent → Bool) (W V : List Ent) (i j : Nat) : Prop where
  len : V.length = W.length
  lt : i < j
  le : j ≤ W.length
  head : V.take i = (W.take j).filter (fun e => !p e)
  tail : V.drop j = W.drop j
theorem Mid.first {p : Ent → Bool} {W : List Ent} {i : Nat} (hi : i < W.length) (ha : (W.take i).any p = false) (hp : W[i]?.map p = some true) : Mid p W W i (i + 1) := by
  refine ⟨rfl, by omega, by omega, ?_, rfl⟩
  have he : W[i]? = some W[i] := List.getElem?_eq_getElem hi
  rw [he] at hp
  rw [List.take_add_one, he, List.filter_append]
  have h1 : (W.take i).filter (fun e => !p e) = W.take i := List.filter_eq_self.2 fun e hm => by
    rw [List.any_eq_false] at ha
    simpa using ha e hm
  have h2 : ([W[i]] : List Ent).filter (fun e => !p e) = [] := by simp at hp ⊢; exact hp
  rw [h1]; simp [h2]
theorem Mid.at {p : Ent → Bool} {W V : List Ent} {i j : Nat} (h : Mid p W V i j) {x : Ent} (hx : W[j]? = some x) : V[j]? = some x := by
  have := congrArg (fun l => l[0]?) h.tail
  simpa [hx] using this
theorem Mid.skip {p : Ent → Bool} {W V : List Ent} {i j : Nat} (h : Mid p W V i j) {x : Ent} (hx : W[j]? = some x) (hp : p x = true) : Mid p W V i (j + 1) := by
  have hj : j < W.length := (List.getElem?_eq_some_iff.1 hx).1
  refine ⟨h.len, by have := h.lt; omega, by omega, ?_, ?_⟩
  · rw [h.head, List.take_add_one, hx, List.filter_append]; simp [hp]
  · rw [← List.drop_drop, h.tail, List.drop_drop]
theorem Mid.keep {p : Ent → Bool} {W V : List Ent} {i j : Nat} (h : Mid p W V i j) {x : Ent} (hx : W[j]? = some x) (hp : p x = false) : Mid p W (V.set i x) (i + 1) (j + 1) := by
  have hj : j < W.length := (List.getElem?_eq_some_iff.1 hx).1
  have hl := h.len
  have hlt := h.lt
  refine ⟨by simp [hl], by omega, by omega, ?_, ?_⟩
  · rw [List.take_add_one, List.getElem?_set_self (by omega), List.take_set_of_le (Nat.le_refl _), h.head, List.take_add_one, hx, List.filter_append]; simp [hp]
  · rw [List.drop_set_of_lt (by omega), ← List.drop_drop, h.tail, List.drop_drop]
theorem Mid.end {p : Ent → Bool} {W V : List Ent} {i n : Nat} (h : Mid p W V i n) : i = ((W.take n).filter (fun e => !p e)).length := by
  have := congrArg List.length h.head
  rw [List.length_take, Nat.min_eq_left (by have := h.len; have := h.lt; have := h.le; omega)] at this
  exact this

/-- Entries of one process and start, each with the next number: n of them behind lo. -/
def one (fr boot k : Int) : Ent := ⟨fr, boot, k, 1, 1, 0, ⟨#[120]⟩⟩
def run (fr boot lo : Int) : Nat → List Ent
  | 0 => []
  | n + 1 => one fr boot (lo + 1) :: run fr boot (lo + 1) n
theorem one_may {fr boot k : Int} (h1 : 1 ≤ fr) (h2 : fr ≤ 7) (h3 : 1 ≤ boot) (h4 : boot ≤ 1099511627776) (h5 : 1 ≤ k) (h6 : k ≤ 1099511627776) : may (one fr boot k) = true := by
  rw [may_iff]
  exact ⟨⟨h1, h2⟩, ⟨h3, h4⟩, ⟨h5, h6⟩, ⟨show (0 : Int) ≤ 1 by decide, show (1 : Int) ≤ 2 by decide⟩, ⟨show (0 : Int) ≤ 1 by decide, show (1 : Int) ≤ 2 by decide⟩, ⟨show (0 : Int) ≤ 0 by decide, show (0 : Int) ≤ 1099511627776 by decide⟩, show (⟨#[120]⟩ : ByteArray).size ≤ 16 by decide⟩
end Go.Proofs.YtacipjdaiglnjaaGreatDoor.PPend

/- 'Pn': what waits, at block g; entries in the midst of a block: read, one set, the last ones cleared. -/
namespace Go.Proofs.YtacipjdaiglnjaaGreatDoor
open Go.RowKit PPend

theorem els_set (W : List Ent) (i : Nat) (x : Ent) (hi : i < W.length) : els (W.set i x) = els (W.take i) ++ (ecs x ++ els (W.drop (i + 1))) := by
  rw [List.set_eq_take_append_cons_drop, if_pos hi, els_append]; rfl
theorem els_parts (W : List Ent) (i : Nat) (hi : i < W.length) : els W = els (W.take i) ++ (ecs W[i] ++ els (W.drop (i + 1))) := by
  conv => lhs; rw [← List.take_append_drop i W, List.drop_eq_getElem_cons hi, els_append]
  rfl
section
variable {w w' : World} {g : Nat} {e : TypeId} {Y Q : List Value} {W : List Ent}
/-- n entries that stand in the midst of a block, as a slice. -/
theorem Blk.entsRd (h : Blk w g e (Y ++ (els W ++ Q))) {o n c : Nat} (ho : Y.length = o) (hn : n ≤ W.length) (hc : n ≤ c) (hm : c ≤ maxLen) : Rd w w.heap.size (some ⟨g, o, none⟩) c 7 n (els (W.take n)) := by
  refine ⟨by rw [els_length, List.length_take, Nat.min_eq_left hn], hc, hm, (fun hh => by cases hh), fun _ => ⟨g, o, rfl, h.lt, fun j u hu => h.cell ?_⟩⟩
  have hj := (List.getElem?_eq_some_iff.1 hu).1
  rw [els_length, List.length_take, Nat.min_eq_left hn] at hj
  rw [List.getElem?_append_right (by omega), ho, show o + j - o = j by omega, List.getElem?_append_left (by rw [els_length]; omega)]
  rw [← els_take, List.getElem?_take_of_lt hj] at hu
  exact hu
theorem Blk.entRange (h : Blk w g e (Y ++ (els W ++ Q))) {o i : Nat} {x : Ent} (ho : Y.length = o) (hx : W[i]? = some x) : w.rangeAt g (o + i * 7) (ecs x) := fun j u hu => by
  have hj : j < 7 := by simpa [ecs_length] using (List.getElem?_eq_some_iff.1 hu).1
  have hi : i < W.length := (List.getElem?_eq_some_iff.1 hx).1
  refine h.cell ?_
  rw [List.getElem?_append_right (by omega), ho, show o + i * 7 + j - o = i * 7 + j by omega, List.getElem?_append_left (by rw [els_length]; omega), els_at hx hj]
  exact hu
theorem Blk.entThere (h : Blk w g e (Y ++ (els W ++ Q))) {o i m : Nat} (ho : Y.length = o) (hi : i * 7 + m ≤ W.length * 7) : w.there g (o + i * 7) m := fun j hj => by
  refine ⟨?_, h.free _⟩
  have hl : i * 7 + j < (els W).length := by rw [els_length]; omega
  rw [h.cell (u := (els W)[i * 7 + j]) (by
    rw [List.getElem?_append_right (by omega), ho, show o + i * 7 + j - o = i * 7 + j by omega, List.getElem?_append_left hl]
    exact List.getElem?_eq_getElem hl)]
  rfl
theorem Blk.entSet (h : Blk w g e (Y ++ (els W ++ Q))) {o i : Nat} (ho : Y.length = o) (hi : i < W.length) (x : Ent) : Blk (w.setCells g (o + i * 7) (ecs x)) g e (Y ++ (els (W.set i x) ++ Q)) := by
  have h1 : Blk w g e ((Y ++ els (W.take i)) ++ (ecs W[i] ++ (els (W.drop (i + 1)) ++ Q))) := by
    rw [els_parts W i hi] at h
    simpa using h
  have h2 := h1.cells (ecs x) rfl
  rw [List.length_append, els_length, List.length_take, Nat.min_eq_left (by omega), ho] at h2
  rw [els_set W i x hi]
  simpa using h2
theorem Blk.entSets (h : Blk w g e (Y ++ (els W ++ Q))) {o i : Nat} (ho : Y.length = o) (Z : List Ent) (hi : i + Z.length ≤ W.length) : Blk (w.setCells g (o + i * 7) (els Z)) g e (Y ++ (els (W.take i ++ Z ++ W.drop (i + Z.length)) ++ Q)) := by
  have h1 : Blk w g e ((Y ++ els (W.take i)) ++ (els ((W.drop i).take Z.length) ++ (els (W.drop (i + Z.length)) ++ Q))) := by
    have : els W = els (W.take i) ++ (els ((W.drop i).take Z.length) ++ els (W.drop (i + Z.length))) := by
      rw [← els_append, ← els_append, ← List.drop_drop, List.take_append_drop, List.take_append_drop]
    rw [this] at h
    simpa using h
  have h2 := h1.cells (els Z) (by rw [els_length, els_length, List.length_take, List.length_drop, Nat.min_eq_left (by omega)])
  rw [List.length_append, els_length, List.length_take, Nat.min_eq_left (by omega), ho] at h2
  simpa [els_append] using h2
end

theorem zeroCells_els (m : Nat) : (Builtin.zeroCells (ev zeroE).cells m).toList = els (zeros m) := by
  have hs : (ev zeroE).cells.size = 7 := rfl
  have ht : (ev zeroE).cells.toList = ecs zeroE := rfl
  refine List.ext_getElem? fun j => ?_
  unfold Builtin.zeroCells
  rw [hs]
  by_cases hj : j < m * 7
  · have hm : j % 7 < 7 := Nat.mod_lt _ (by omega)
    have hz : (zeros m)[j / 7]? = some zeroE := by
      unfold zeros; rw [List.getElem?_replicate, if_pos (by omega)]; rfl
    have e1 := els_at hz hm
    rw [show j / 7 * 7 + j % 7 = j by omega] at e1
    rw [e1, ← ht]
    simp [hj, hs, hm]
  · have e1 : (els (zeros m))[j]? = none := List.getElem?_eq_none (by rw [els_length]; unfold zeros; rw [List.length_replicate]; omega)
    rw [e1]; simp; omega
theorem run_clearE {w : World} {g o m c : Nat} {ty : TypeId} (hm : 0 < m) (h : w.there g o (m * 7)) :
    (Builtin.clear_ #[29] ty #[.slice (some ⟨g, o, none⟩) m c]).run Tryz.prog w = .ok (.tuple #[]) (w.setCells g o (els (zeros m))) := by
  have hv : (zeroValue 93).run Tryz.prog w = .ok (ev zeroE) w := by kernel_rfl
  have hl : (els (zeros m)).length = m * 7 := by rw [els_length]; simp [zeros]
  have hst := run_storeCells_cells (P := Tryz.prog) g o (els (zeros m)) 0 w (fun j hj => by simpa using (h j (by omega)).1) (fun j hj => by simpa using (h j (by omega)).2) (els_one _)
  simp only [Nat.add_zero] at hst
  obtain ⟨m, rfl⟩ : ∃ k, m = k + 1 := ⟨m - 1, by omega⟩
  simp [Builtin.clear_, run_underlying Tryz.underlying29, hv, zeroCells_els, hst]
theorem wpList_clearE {w : World} {ops : Array Oper} {rest : List Oper} {o : Oper} {a : Act} {Q' : Exit → Act → World → Prop} (hgd : o.guard = none) (x : Operand)
    (ho : o.op = .call { callee := .builtin .clear, args := #[x], argTypes := #[29] })
    (g s i m c : Nat) (hx : a.eval x = .slice (some ⟨g, s + i * 7, none⟩) m c) (hm : 0 < m) {e : TypeId} {Y Q : List Value} {W : List Ent} (hB : Blk w g e (Y ++ (els W ++ Q))) (hs : Y.length = s) (hi : i + m ≤ W.length)
    (h : ∀ w' W', W'.length = W.length → W'.take i = W.take i → Blk w' g e (Y ++ (els W' ++ Q)) → Touch [g] w w' → wpList Tryz.prog ops Q' rest (a.put o.dst (.tuple #[])) w') : wpList Tryz.prog ops Q' (o :: rest) a w := by
  refine wpList_plain hgd fun K hK => ?_
  have hrun := run_clearE (w := w) (g := g) (o := s + i * 7) (m := m) (c := c) (ty := o.type) hm (hB.entThere hs (by omega))
  have hB2 := hB.entSets hs (zeros m) (i := i) (by simpa [zeros] using hi)
  unfold Oper.wp execOp
  simp only [ho, resolve, invoke, builtin, Sem.run_bind, Sem.run_pure, Result.andThen_ok, List.map_toArray, List.map_cons, List.map_nil, hx, hrun]
  refine hK _ _ (h _ _ ?_ ?_ hB2 (grown_cells _ _ _ _))
  · simp [zeros]; omega
  · rw [List.append_assoc, List.take_append_of_le_length (by simp; omega), List.take_take, Nat.min_self]
/-- 's[l:]' of what lies from o on in block g; 's[:m]'. -/
theorem wpList_hind {P : Program} {w : World} {ops : Array Oper} {rest : List Oper} {o : Oper} {a : Act} {Q : Exit → Act → World → Prop} (hgd : o.guard = none) (t : TypeId) (x lo : Operand) (ho : o.op = .slice t x (some lo) none none)
    (e : TypeId) (z : Option Value) (k bytes : Nat) (ht : P.underlying t = some (.slice e)) (hi : (P.info? e).map (fun i => (i.zero, i.size, i.bytes)) = some (z, k, bytes))
    (g s c n l : Nat) (hx : a.eval x = .slice (some ⟨g, s, none⟩) n c) (hlo : a.eval lo = .int .i64 l) (h1 : l < n) (h2 : n ≤ c)
    (h : wpList P ops Q rest (a.put o.dst (.slice (some ⟨g, s + l * k, none⟩) (n - l) (c - l))) w) : wpList P ops Q (o :: rest) a w := by
  refine wpList_plain hgd fun K hK => ?_
  have hrun := run_cut (P := P) (w := w) t e ht hi (some ⟨g, s, none⟩) n c (some (.int .i64 l)) none .i64 .i64 l n (.inr rfl) (.inl ⟨rfl, rfl⟩) (by omega) h2
  have ha : (if c = l then (some ⟨g, s, none⟩ : Option Addr) else (some ⟨g, s, none⟩ : Option Addr).map (·.add (l * k))) = some ⟨g, s + l * k, none⟩ := by
    rw [if_neg (by omega)]; simp [add_zero_spot]
  rw [ha] at hrun
  unfold Oper.wp execOp
  simp only [ho, hx, hlo, Option.map_none, Option.map_some, Sem.run_bind, hrun, Result.andThen_ok, Sem.run_pure]
  exact hK _ _ h
theorem wpList_headS {P : Program} {w : World} {ops : Array Oper} {rest : List Oper} {o : Oper} {a : Act} {Q : Exit → Act → World → Prop} (hgd : o.guard = none) (t : TypeId) (x hi' : Operand) (ho : o.op = .slice t x none (some hi') none)
    (e : TypeId) (z : Option Value) (k bytes : Nat) (ht : P.underlying t = some (.slice e)) (hi : (P.info? e).map (fun i => (i.zero, i.size, i.bytes)) = some (z, k, bytes))
    (A : Option Addr) (c n m : Nat) (hx : a.eval x = .slice A n c) (hhi : a.eval hi' = .int .i64 m) (h1 : m ≤ c)
    (h : wpList P ops Q rest (a.put o.dst (.slice A m c)) w) : wpList P ops Q (o :: rest) a w := by
  refine wpList_plain hgd fun K hK => ?_
  have hrun := run_short (P := P) (w := w) t e ht hi A n c m h1
  unfold Oper.wp execOp
  simp only [ho, hx, hhi, Option.map_none, Option.map_some, Sem.run_bind, hrun, Result.andThen_ok, Sem.run_pure]
  exact hK _ _ h

/-! What waits: three numbers, four places, how many of them count. -/
def pncs (fr boot seq : Int) (W : List Ent) (n : Nat) : List Value := [.int .i64 fr, .int .i64 boot, .int .i64 seq] ++ (els W ++ [.int .i64 n])
def Pn (w : World) (g : Nat) (fr boot seq : Int) (L : List Ent) : Prop := ∃ Z, (L ++ Z).length = 4 ∧ Blk w g 138 (pncs fr boot seq (L ++ Z) L.length)
section
variable {w w' : World} {g n : Nat} {fr boot seq : Int} {L W : List Ent} {S : List Nat}
theorem pncs_fr : (pncs fr boot seq W n)[0]? = some (.int .i64 fr) := rfl
theorem pncs_boot : (pncs fr boot seq W n)[1]? = some (.int .i64 boot) := rfl
theorem pncs_seq : (pncs fr boot seq W n)[2]? = some (.int .i64 seq) := rfl
theorem pncs_n (hW : W.length = 4) : (pncs fr boot seq W n)[31]? = some (.int .i64 n) := by
  unfold pncs
  rw [List.getElem?_append_right (by simp), List.getElem?_append_right (by rw [els_length]; simp; omega), els_length, hW]; rfl
theorem pnset_n (hW : W.length = 4) (x : Nat) : (pncs fr boot seq W n).set 31 (.int .i64 x) = pncs fr boot seq W x := by
  unfold pncs
  rw [List.set_append_right _ _ (by simp), List.set_append_right _ _ (by rw [els_length]; simp; omega), els_length, hW]; rfl
theorem Pn.touch (h : Pn w g fr boot seq L) (ht : Touch S w w') (hg : g ∉ S) : Pn w' g fr boot seq L := by
  obtain ⟨Z, hl, hB⟩ := h
  exact ⟨Z, hl, hB.touch ht hg⟩
theorem Pn.past (h : Pn w g fr boot seq L) (hb : Below w.heap.size w w') : Pn w' g fr boot seq L := by
  obtain ⟨Z, hl, hB⟩ := h
  exact ⟨Z, hl, hB.past hb⟩
theorem Pn.lt (h : Pn w g fr boot seq L) : g < w.heap.size := by
  obtain ⟨Z, hl, hB⟩ := h
  exact hB.lt
theorem Pn.blk (h : Pn w g fr boot seq L) : ∃ ys, Blk w g 138 ys := by
  obtain ⟨Z, hl, hB⟩ := h
  exact ⟨_, hB⟩
theorem Pn.few (h : Pn w g fr boot seq L) : L.length ≤ 4 := by
  obtain ⟨Z, hl, hB⟩ := h
  rw [List.length_append] at hl; omega
end
end Go.Proofs.YtacipjdaiglnjaaGreatDoor

