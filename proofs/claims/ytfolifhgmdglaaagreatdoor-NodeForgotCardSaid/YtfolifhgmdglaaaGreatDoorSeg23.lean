/- A law's process that hears nothing: it waits, then proposes; a row of messages by place. -/
import Derived.Test.YtfolifhgmdglaaaGreatDoorSeg22
namespace Go.Proofs.YtfolifhgmdglaaaGreatDoor
open Go.RowKit PNode

theorem ms_at {w : World} {base n c i : Nat} {A : Option Addr} {Q : List Mp} {q : Mp} (o : Ow w base 47 13 A n c (mgs Q)) (hi : Q[i]? = some q) : ∃ g, A = some ⟨g, 0, none⟩ ∧ ∀ j v, (mgc q)[j]? = some v → w.cell? ⟨g, i * 13 + j, none⟩ = some v := by
  have hlt : i < Q.length := (List.getElem?_eq_some_iff.1 hi).1
  have hn : n = Q.length := by have := o.1; rw [mgs_length] at this; omega
  obtain ⟨g, rfl, -, -⟩ := o.some (by omega)
  refine ⟨g, rfl, fun j v hv => ?_⟩
  have hj : j < 13 := (List.getElem?_eq_some_iff.1 hv).1
  exact (o.cell rfl (by rw [← hv]; exact rows_at mgc_length hi hj)).1

/-- It waits since its beginning. -/
def idl (id n k : Int) : Np := { newP id n 1 0 with clock := k }
theorem idl_nr (id n k : Int) (h1 : 3 ≤ n) (h2 : n ≤ 7) (h3 : 1 ≤ id) (h4 : id ≤ n) (h5 : 0 ≤ k) (h6 : k ≤ 1000) : Nr (idl id n k) :=
  have h := new_r (id := id) (n := n) (boot := 1) (pro := 0) h1 h2 h3 h4 (by omega) (by omega) (by omega) (by omega)
  ⟨h.n, h.id, h.boot, h.pro, ⟨h5, by show k ≤ _; omega⟩, ⟨Int.le_refl _, h5⟩, h.last, h.mem, h.com, h.vo, h.den, h.pf, h.seq⟩
theorem zero_boot (o : Int) : (PGram.at_ PGram.zeroL o).boot = 0 := by
  unfold PGram.at_ PGram.zeroL
  rw [List.getD_eq_getElem?_getD, List.getElem?_replicate]
  split <;> rfl
theorem idl_late (id n k : Int) : late (idl id n k) = decide (8 + 2 * id ≤ k - 0) := rfl
theorem Sn.idle {w0 w : World} {x d : Nat} {id n k : Int} (h : Sn w0 w x d (idl id n k)) (hk : k + 1 < 8 + 2 * id) (h7 : id ≤ 7) :
    Calls Tryz.prog 13 #[.pointer (some ⟨x, 0, none⟩)] w (SnPost w0 w x d (cNone (idl id n (k + 1)))) :=
  h.post (fun F hF => tick_of hF (by show k < _; omega) _ (fun Q p' hh => by rw [hh.2]; exact ⟨rfl, rfl⟩) (fun w1 F1 h1 => act_none (p := idl id n (k + 1)) h1 rfl rfl rfl rfl (by rw [idl_late]; simp; omega)))
theorem Sn.first {w0 w : World} {x d : Nat} {id n k : Int} (h : Sn w0 w x d (idl id n k)) (h0 : 0 ≤ k) (hk : k + 1 = 8 + 2 * id) (h7 : id ≤ 7) (N : Nat) (hN : n = N) :
    Calls Tryz.prog 13 #[.pointer (some ⟨x, 0, none⟩)] w (SnPost w0 w x d (cProp (idl id n (k + 1)) N)) :=
  h.post (fun F hF => tick_of hF (by show k < _; omega) _ (fun Q p' hh => by obtain ⟨v, -, -, rfl⟩ := hh; exact ⟨rfl, rfl⟩) (fun w1 F1 h1 => act_late (p := idl id n (k + 1)) h1 N hN rfl rfl rfl (by rw [idl_late]; simp; omega) (by show (0 : Int) ≤ _; omega) (by show (0 : Int) ≤ _; omega) rfl rfl))
/-- Whom it asks when it proposes: each other one. -/
theorem propsP_len {p : Np} (hr : Nr p) {v : Int} (hl : p.last < v) {N : Nat} (hN : p.n = N) (boot : Int) : ((propsP (PVote.tm (own p v)) p.id boot v N).length : Int) = N - 1 := by
  unfold propsP
  rw [List.length_map, own_tm hr hl]
  have h1 := hr.id
  have h2 := hr.n
  have := props_ge (boot := boot) (view := v) h1.1 (by omega) (k := N) (by omega) (by omega)
  omega
theorem propsP_each {t : Nat} {me boot view : Int} {N i : Nat} {q : Mp} (h : (propsP t me boot view N)[i]? = some q) : ∃ dst, q = ⟨propM me boot view dst, none, 0⟩ := by
  have hm := List.mem_of_getElem? h
  unfold propsP at hm
  obtain ⟨m, h1, rfl⟩ := List.mem_map.1 hm
  obtain ⟨dst, -, -, rfl⟩ := props_each h1
  exact ⟨dst, rfl⟩
end Go.Proofs.YtfolifhgmdglaaaGreatDoor

