/- Hear in two ways: the message, or an error; a law's gram. -/
import Derived.Test.YtfijjdahoimoeaaDoorSeg7
namespace Go.Proofs.YtfijjdahoimoeaaDoor
open Go.RowKit

theorem herr_zero {me : Int} {L : List Oth} {r : Option Msg} (h : PGram.herr me L r = 0) : ∃ m, r = some m ∧ PGram.hmsg me L r = m := by
  unfold PGram.herr at h
  unfold PGram.hmsg
  cases r with
  | none => cases h
  | some m =>
    refine ⟨m, rfl, ?_⟩
    simp only at h ⊢
    split at h
    · cases h
    · rename_i h1
      split at h
      · cases h
      · rename_i h2
        rw [if_neg h1, if_neg h2]
theorem herr_else {me : Int} {L : List Oth} {r : Option Msg} (h : PGram.herr me L r ≠ 0) : PGram.hmsg me L r = zeroM ∧ PGram.hleft me L r = L := by
  unfold PGram.herr at h
  unfold PGram.hmsg PGram.hleft
  cases r with
  | none => exact ⟨rfl, rfl⟩
  | some m =>
    simp only at h ⊢
    by_cases h1 : m.dst ≠ me
    · rw [if_pos h1, if_pos h1]; exact ⟨rfl, rfl⟩
    · rw [if_neg h1] at h ⊢
      rw [if_neg h1]
      by_cases h2 : m.boot < (PGram.at_ L m.fr).boot
      · rw [if_pos h2, if_pos h2]; exact ⟨rfl, rfl⟩
      · rw [if_neg h2] at h; exact absurd rfl h

theorem hear_ok {w : World} {g : Nat} {me : Int} {L : List Oth} {A : Option Addr} {c n : Nat} {l : List Int} {r : Option Msg} {m : Msg} (hg : Gm w g me L) (h : Rd w w.heap.size A c 1 n (bs l)) (hb : isB l) (ht : Tab w) (hn : n ≤ 1000000) (hd : PMsg.dec l = r) (hr : r = some m) (he : PGram.herr me L r = 0) :
    Calls Tryd.prog 11 #[.pointer (some ⟨g, 0, none⟩), .slice A n c] w fun x w' => ∃ (A' : Option Addr) (c' : Nat), x = .returned (.tuple #[.agg #[.int .i64 m.kind, .int .i64 m.fr, .int .i64 m.dst, .int .i64 m.boot, .int .i64 m.view, .int .i64 m.last, .int .i64 m.mem, .int .i64 m.pos, .slice A' m.es.length c', .int .i64 m.com, .int .i64 m.num, .int .i64 m.clk, .bool m.yes], .int .i64 0]) ∧
      w'.ownsRow w.heap.size 70 7 (.slice A' m.es.length c') m.es.length (els m.es) ∧ Gm w' g me (PGram.hleft me L r) ∧ Touch [g] w w' := by
  have e1 := hear_c w g me L A c n l hg h hb ht hn
  rw [hd] at e1
  obtain ⟨m', h1, h2⟩ := herr_zero he
  obtain rfl : m = m' := by rw [hr] at h1; exact Option.some.inj h1
  unfold HearPost at e1
  rw [he, h2] at e1
  exact e1
theorem hear_no {w : World} {g : Nat} {me : Int} {L : List Oth} {A : Option Addr} {c n : Nat} {l : List Int} {r : Option Msg} {e : Int} (hg : Gm w g me L) (h : Rd w w.heap.size A c 1 n (bs l)) (hb : isB l) (ht : Tab w) (hn : n ≤ 1000000) (hd : PMsg.dec l = r) (he : PGram.herr me L r = e) (h0 : e ≠ 0) :
    Calls Tryd.prog 11 #[.pointer (some ⟨g, 0, none⟩), .slice A n c] w fun x w' => ∃ (A' : Option Addr) (c' : Nat), x = .returned (.tuple #[.agg #[.int .i64 0, .int .i64 0, .int .i64 0, .int .i64 0, .int .i64 0, .int .i64 0, .int .i64 0, .int .i64 0, .slice A' 0 c', .int .i64 0, .int .i64 0, .int .i64 0, .bool false], .int .i64 e]) ∧ Gm w' g me L ∧ Touch [g] w w' := by
  have e1 := hear_c w g me L A c n l hg h hb ht hn
  rw [hd] at e1
  obtain ⟨h1, h2⟩ := herr_else (me := me) (L := L) (r := r) (by rw [he]; exact h0)
  unfold HearPost at e1
  rw [he, h1, h2] at e1
  exact e1.mono fun x w' ⟨A', c', a1, _, a3, a4⟩ => ⟨A', c', a1, a3, a4⟩

/-- What is told of a message's bytes. -/
def said (m : Msg) : Option Msg := if PMsg.may m = true then some m else none
theorem dec_said (m : Msg) : PMsg.dec (PMsg.enc m) = said m := by
  unfold said
  cases h : PMsg.may m
  · rw [PMsg.enc_no h]; rfl
  · rw [PMsg.dec_enc h]; rfl

/-- A law's gram: what the law made, at block g. -/
structure Gs (w0 w : World) (g : Nat) (me : Int) (L : List Oth) : Prop where
  bel : Below w0.heap.size w0 w
  own : w0.heap.size ≤ g
  gm : Gm w g me L
section
variable {w0 w w' : World} {g : Nat} {me : Int} {L L' : List Oth}
theorem Gs.past (h : Gs w0 w g me L) (b : Below w.heap.size w w') : Gs w0 w' g me L := ⟨h.bel.trans (b.mono h.bel.size), h.own, h.gm.past b⟩
theorem Gs.go (h : Gs w0 w g me L) (k : Gm w' g me L') (t : Touch [g] w w') : Gs w0 w' g me L' := ⟨h.bel.trans (t.below (by simpa using h.own) h.bel.size), h.own, k⟩
theorem Gs.tab (h : Gs w0 w g me L) (t : Tab w0) : Tab w := t.past h.bel
/-- Another block of the law's, behind a call that wrote the gram. -/
theorem Gs.blk (h : Gs w0 w g me L) {x : Nat} {t : TypeId} {xs : List Value} (k : Blk w x t xs) (hne : t ≠ 60) (ht : Touch [g] w w') : Blk w' x t xs := k.touch ht (by simpa using k.ne h.gm.1 hne)
theorem Gs.row (h : Gs w0 w g me L) {base k n : Nat} {t : TypeId} {v : Value} {xs : List Value} (o : w.ownsRow base t k v n xs) (hne : 60 ≠ t) (ht : Touch [g] w w') : w'.ownsRow base t k v n xs := own_touch o ht (fun s hs zs hz => by
  obtain rfl := List.mem_singleton.1 hs
  exact Blk.ne h.gm.1 hz hne rfl)
end
theorem gNew_gs {w0 w : World} (hb : Below w0.heap.size w0 w) (i : Int) (h : PGram.isId i = true) :
    Calls Tryd.prog 9 #[.int .i64 i] w fun e w' => e = .returned (.pointer (some ⟨w.heap.size, 0, none⟩)) ∧ Gs w0 w' w.heap.size i PGram.zeroL ∧ Below w.heap.size w w' :=
  (gNew_yes w i h).mono fun _ _ ⟨h1, h2, h3⟩ => ⟨h1, ⟨hb.trans (h3.mono hb.size), hb.size, h2⟩, h3⟩
end Go.Proofs.YtfijjdahoimoeaaDoor

