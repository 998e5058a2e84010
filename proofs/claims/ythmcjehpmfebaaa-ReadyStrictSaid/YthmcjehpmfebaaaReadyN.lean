/- What is known of the statements' kinds. -/
import Derived.Test.YthmcjehpmfebaaaReadyL
import Derived.Test.YthmcjehpmfebaaaReadyM
namespace Go.Proofs.Ythmcjehpmfebaaa
open Go.RowKit PReady

theorem KE.fit {o v : Int} {i : Nat} {e : Ent} (h : KE o v i e) (hi : i < 1000) : PEnt.Fit e := by
  obtain ⟨h1, h2, h3, h4, _, h5, h6, _, _⟩ := h
  exact ⟨by omega, by omega, by omega, by omega, by omega, by omega⟩
/-- A list of kinds. -/
structure KL (o v : Int) (es : List Ent) : Prop where
  ke : ∀ (i : Nat) (e : Ent), es[i]? = some e → KE o v i e
  le : es.length ≤ 30
theorem KL.fit {o v : Int} {es : List Ent} (h : KL o v es) : ∀ e ∈ es, PEnt.Fit e := fun e he => by
  obtain ⟨i, hi⟩ := List.getElem?_of_mem he
  have := (List.getElem?_eq_some_iff.1 hi).1
  have := h.le
  exact (h.ke i e hi).fit (by omega)
theorem KL.ap {o v : Int} {es : List Ent} (h : KL o v es) : Apart es := by
  unfold Apart
  rw [List.pairwise_iff_getElem]
  intro i j hi hj hij
  have h1 := (h.ke i _ (List.getElem?_eq_getElem hi)).seq
  have h2 := (h.ke j _ (List.getElem?_eq_getElem hj)).seq
  have h3 : es[i].seq ≠ es[j].seq := by omega
  simp [PEnt.same, h3]
theorem KL.mem {o v : Int} {es : List Ent} (h : KL o v es) {e : Ent} (he : e ∈ es) : ∃ i : Nat, i < es.length ∧ KE o v i e := by
  obtain ⟨i, hi⟩ := List.getElem?_of_mem he
  exact ⟨i, (List.getElem?_eq_some_iff.1 hi).1, h.ke i e hi⟩
/-- Of Strict ones in order. -/
theorem strict_go {es : List Ent} (h : KL 1 2 es) (commit : Int) {f : Nat} (hf : f ≤ es.length) : tk 0 (es.take f) ++ go commit 0 (tk 0 (es.take f)) es = tk 0 (es.take (max f (min es.length commit.toNat))) := by
  refine go_upto (bad := fun u => u.so = true) (fun u o _ => rfl) h.ap (fun e _ => rfl) (fun u a e he hu => ?_) (fun k e hk => ?_) hf
  · obtain ⟨i, _, hk⟩ := h.mem he
    have h2 : e.lev = 2 := hk.levIs (by decide)
    have hu' : u.so = true := hu
    simp [lets, level, h2, hu']
  · have h1 : e.ord = 1 := (h.ke k e hk).ordIs (by decide)
    have h2 : e.lev = 2 := (h.ke k e hk).levIs (by decide)
    simp [lets, level, order, h1, h2, Fl.none]
/-- Of Timed ones. -/
theorem timed_go {es : List Ent} (h : KL 2 1 es) (now : Int) {f : Nat} (hf : f ≤ es.length) : tk 0 (es.take f) ++ go es.length now (tk 0 (es.take f)) es = tk 0 (es.take (max f (min es.length (now - 2).toNat))) := by
  refine go_upto (bad := fun u => u.tim = true) (fun u o hu => by have hu' : u.tim = true := hu; simp [Fl.add, hu']) h.ap (fun e he => ?_) (fun u a e he hu => ?_) (fun k e hk => ?_) hf
  · obtain ⟨i, _, hk⟩ := h.mem he
    have h2 : e.ord = 2 := hk.ordIs (by decide)
    simp [Fl.add, h2]
  · obtain ⟨i, _, hk⟩ := h.mem he
    have h2 : e.ord = 2 := hk.ordIs (by decide)
    have hu' : u.tim = true := hu
    simp [lets, order, h2, hu']
  · have h1 : e.ord = 2 := (h.ke k e hk).ordIs (by decide)
    have h2 : e.lev = 1 := (h.ke k e hk).levIs (by decide)
    have h3 := (h.ke k e hk).stamp
    have h4 := (List.getElem?_eq_some_iff.1 hk).1
    have h5 := h.le
    have q1 : (k : Int) + 1 ≤ es.length := by omega
    have q2 : (k : Int) ≤ 9223372036854775804 := by omega
    simp only [lets, level, order, h1, h2, h3, Fl.none, held]
    rw [decide_eq_true q1, decide_eq_true q2]
    simp
    omega
theorem take_len {es : List Ent} {f : Nat} (hf : f ≤ es.length) : (tk 0 (es.take f)).length = f := by rw [tk_len, List.length_take]; omega
end Go.Proofs.Ythmcjehpmfebaaa
