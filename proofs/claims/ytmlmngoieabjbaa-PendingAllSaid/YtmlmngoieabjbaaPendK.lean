/- A law's pending; begun. -/
import Derived.Test.YtmlmngoieabjbaaPendS
namespace Go.Proofs.Ytmlmngoieabjbaa
open Go.RowKit PPend

/-- A pending of the law's own. -/
structure Lp (w0 w : World) (g : Nat) (fr boot seq : Int) (L : List Ent) : Prop where
  bel : Below w0.heap.size w0 w
  own : w0.heap.size ≤ g
  p : Pn w g fr boot seq L
  s0 : 0 ≤ seq
  s1 : seq ≤ 1099511627776
section
variable {w0 w w' : World} {g : Nat} {fr boot seq : Int} {L : List Ent}
theorem Lp.past (h : Lp w0 w g fr boot seq L) (t : Below w.heap.size w w') : Lp w0 w' g fr boot seq L := ⟨h.bel.trans (t.mono h.bel.size), h.own, h.p.past t, h.s0, h.s1⟩
theorem Lp.alloc (h : Lp w0 w g fr boot seq L) (o : Obj) : Lp w0 (w.alloc o) g fr boot seq L := h.past ((Below.refl _ _).alloc (Nat.le_refl _) _)
theorem Lp.tb (h : Lp w0 w g fr boot seq L) (t : Touch [g] w w') : Below w0.heap.size w0 w' := h.bel.trans (t.below (by simpa using h.own) h.bel.size)
theorem Lp.far {S : List Nat} (h : Lp w0 w g fr boot seq L) (t : Touch S w w') (hs : ∀ k ∈ S, w0.heap.size ≤ k) (hg : g ∉ S) : Lp w0 w' g fr boot seq L :=
  ⟨h.bel.trans (t.below hs h.bel.size), h.own, h.p.touch t hg, h.s0, h.s1⟩
theorem Lp.new (h : Below w0.heap.size w0 w) (h1 : 1 ≤ fr) (h2 : fr ≤ 7) (h3 : 1 ≤ boot) (h4 : boot ≤ 1099511627776) : Calls Try.prog 7 #[.int .i64 fr, .int .i64 boot] w fun e w' => e = .returned (.pointer (some ⟨w.heap.size, 0, none⟩)) ∧ Lp w0 w' w.heap.size fr boot 0 [] ∧ Below w.heap.size w w' :=
  (pnew_yes w fr boot h1 h2 h3 h4).mono fun _ _ ⟨e1, e2, e3⟩ => ⟨e1, ⟨h.trans (e3.mono h.size), h.size, e2, by omega, by omega⟩, e3⟩
theorem Lp.form (h : Lp w0 w g fr boot seq L) (ord lev : Int) (d : ByteArray) (e : Ent) (he : nxt fr boot seq ord lev d = e) (hm : PEnt.may e = false) :
    Calls Try.prog 9 #[.pointer (some ⟨g, 0, none⟩), .int .i64 ord, .int .i64 lev, .string d] w fun x w' => x = .returned (.tuple #[ev zeroE, .int .i64 1]) ∧ Below w.heap.size w w' :=
  (padd_c w g fr boot seq L h.p ord lev d h.s0 h.s1 e he).mono fun _ _ hp => by
    rcases hp with ⟨_, h1, h2⟩ | ⟨h1, _⟩ | ⟨h1, _⟩
    · exact ⟨h1, h2⟩
    · rw [hm] at h1; cases h1
    · rw [hm] at h1; cases h1
theorem Lp.busy (h : Lp w0 w g fr boot seq L) (ord lev : Int) (d : ByteArray) (e : Ent) (he : nxt fr boot seq ord lev d = e) (hm : PEnt.may e = true) (hl : 4 ≤ L.length) :
    Calls Try.prog 9 #[.pointer (some ⟨g, 0, none⟩), .int .i64 ord, .int .i64 lev, .string d] w fun x w' => x = .returned (.tuple #[ev zeroE, .int .i64 9]) ∧ Below w.heap.size w w' :=
  (padd_c w g fr boot seq L h.p ord lev d h.s0 h.s1 e he).mono fun _ _ hp => by
    rcases hp with ⟨h1, _⟩ | ⟨_, _, h1, h2⟩ | ⟨_, h1, _⟩
    · rw [hm] at h1; cases h1
    · exact ⟨h1, h2⟩
    · omega
theorem Lp.add (h : Lp w0 w g fr boot seq L) (ord lev : Int) (d : ByteArray) (e : Ent) (he : nxt fr boot seq ord lev d = e) (hm : PEnt.may e = true) (hl : L.length < 4) :
    Calls Try.prog 9 #[.pointer (some ⟨g, 0, none⟩), .int .i64 ord, .int .i64 lev, .string d] w fun x w' => x = .returned (.tuple #[ev e, .int .i64 0]) ∧ Lp w0 w' g fr boot (seq + 1) (L ++ [e]) ∧ Touch [g] w w' :=
  (padd_c w g fr boot seq L h.p ord lev d h.s0 h.s1 e he).mono fun _ _ hp => by
    rcases hp with ⟨h1, _⟩ | ⟨_, h1, _⟩ | ⟨_, _, h1, h2, h3⟩
    · rw [hm] at h1; cases h1
    · omega
    · exact ⟨h1, ⟨h.tb h3, h.own, h2, by have := h.s0; omega, by
        have := ((PEnt.may_iff e).1 hm).2.2.1.2
        rw [← he] at this; exact this⟩, h3⟩
theorem Lp.done (h : Lp w0 w g fr boot seq L) {A : Option Addr} {c n : Nat} {l : List Ent} (R : Rd w w.heap.size A c 7 n (els l)) (hA : 0 < n * 7 → bk A ≠ some g) :
    Calls Try.prog 13 #[.pointer (some ⟨g, 0, none⟩), .slice A n c] w fun e w' => e = .returned (.int .i64 ((L.length : Int) - (left l L).length)) ∧ Lp w0 w' g fr boot seq (left l L) ∧ Touch [g] w w' :=
  (pdone_c w g fr boot seq L h.p A c n l R hA).mono fun _ _ ⟨e1, e2, e3⟩ => ⟨e1, ⟨h.tb e3, h.own, e2, h.s0, h.s1⟩, e3⟩
theorem Lp.list (h : Lp w0 w g fr boot seq L) : Calls Try.prog 16 #[.pointer (some ⟨g, 0, none⟩)] w fun e w' =>
    ∃ A' c', e = .returned (.slice A' L.length c') ∧ w'.ownsRow w.heap.size 35 7 (.slice A' L.length c') L.length (els L) ∧ Below w.heap.size w w' := plist_c w g fr boot seq L h.p
theorem Lp.len (h : Lp w0 w g fr boot seq L) : Calls Try.prog 17 #[.pointer (some ⟨g, 0, none⟩)] w fun e w' => e = .returned (.int .i64 L.length) ∧ w = w' := plen_c w g fr boot seq L h.p
end

theorem left_begun : left [⟨2, 3, 1, 1, 1, 0, ⟨#[120]⟩⟩] [⟨2, 3, 1, 1, 1, 0, ⟨#[120]⟩⟩, ⟨2, 3, 2, 0, 0, 0, ⟨#[]⟩⟩] = [⟨2, 3, 2, 0, 0, 0, ⟨#[]⟩⟩] := by simp [left, PLog.has, PEnt.same]
set_option maxHeartbeats 4000000 in
set_option maxRecDepth 100000 in
theorem begunN_c (w : World) : Calls Try.prog 6 #[] w fun e w' => e = .returned (.bool true) ∧ Below w.heap.size w w' := by
  go_enter Try.func6, Try.ntmps6
  go_wp2_with fail
  refine (Lp.new (Below.refl w.heap.size w) (fr := 2) (boot := 3) (by decide) (by decide) (by decide) (by decide)).mono ?_
  rintro e w1 ⟨rfl, s, -⟩
  have S1 := Lib.hid s
  clear s
  go_wp2_with fail
  refine (pnew_no w1 0 1 (by omega)).mono ?_
  rintro e w2 ⟨rfl, rfl⟩
  go_wp2_with fail
  refine (pnew_no w1 1 0 (by omega)).mono ?_
  rintro e w2 ⟨rfl, rfl⟩
  go_wp2_with fail
  refine (S1.out.add 1 1 ⟨#[120]⟩ ⟨2, 3, 1, 1, 1, 0, ⟨#[120]⟩⟩ rfl (by decide +kernel) (by decide)).mono ?_
  simp only [ev]
  rintro x w2 ⟨rfl, s, t⟩
  have K2 := Lib.hid (Blk.newEnt w2 35 ⟨2, 3, 1, 1, 1, 0, ⟨#[120]⟩⟩)
  have S2 := Lib.hid (show Lp w (w2.alloc (.cells #[.int .i64 2, .int .i64 3, .int .i64 1, .int .i64 1, .int .i64 1, .int .i64 0, .string ⟨#[120]⟩] 35)) w.heap.size 2 3 1 [⟨2, 3, 1, 1, 1, 0, ⟨#[120]⟩⟩] from s.alloc _)
  have hg2 : w.heap.size < w2.heap.size := s.p.lt
  clear s t S1
  go_wp2_with fail
  obtain ⟨k2, hk2⟩ : ∃ k, w2.heap.size = k := ⟨_, rfl⟩
  rw [hk2] at K2 hg2 ⊢
  clear hk2
  generalize w2.alloc (.cells #[.int .i64 2, .int .i64 3, .int .i64 1, .int .i64 1, .int .i64 1, .int .i64 0, .string ⟨#[120]⟩] 35) = w3 at *
  refine (S2.out.form 9 0 ⟨#[]⟩ ⟨2, 3, 2, 9, 0, 0, ⟨#[]⟩⟩ rfl (by decide +kernel)).mono ?_
  simp only [ev, zeroE]
  rintro x w4 ⟨rfl, b4⟩
  have b5 := b4.alloc b4.size (.cells #[.int .i64 0, .int .i64 0, .int .i64 0, .int .i64 0, .int .i64 0, .int .i64 0, .string ⟨#[]⟩] 35)
  have S5 := Lib.hid (S2.out.past b5)
  have K5 := Lib.hid (K2.out.past b5)
  clear b4 b5 S2 K2
  go_wp2_with fail
  generalize w4.alloc (.cells #[.int .i64 0, .int .i64 0, .int .i64 0, .int .i64 0, .int .i64 0, .int .i64 0, .string ⟨#[]⟩] 35) = w5 at *
  refine (S5.out.add 0 0 ⟨#[]⟩ ⟨2, 3, 2, 0, 0, 0, ⟨#[]⟩⟩ rfl (by decide +kernel) (by simp)).mono ?_
  simp only [ev]
  rintro x w6 ⟨rfl, s, t⟩
  have hkg : k2 ≠ w.heap.size := Nat.ne_of_gt hg2
  have K6 := Lib.hid ((K5.out.touch t (by rw [List.mem_singleton]; exact hkg)).alloc (.cells #[.int .i64 2, .int .i64 3, .int .i64 2, .int .i64 0, .int .i64 0, .int .i64 0, .string ⟨#[]⟩] 35))
  have S6 := Lib.hid (show Lp w (w6.alloc (.cells #[.int .i64 2, .int .i64 3, .int .i64 2, .int .i64 0, .int .i64 0, .int .i64 0, .string ⟨#[]⟩] 35)) w.heap.size 2 3 2 [⟨2, 3, 1, 1, 1, 0, ⟨#[120]⟩⟩, ⟨2, 3, 2, 0, 0, 0, ⟨#[]⟩⟩] from s.alloc _)
  have J6 := Lib.hid (Blk.newEnt w6 35 ⟨2, 3, 2, 0, 0, 0, ⟨#[]⟩⟩)
  have hg6 : w.heap.size < w6.heap.size := s.p.lt
  clear s t S5 K5
  obtain ⟨d0, d1, d2, d3, d4, d5, d6⟩ := K6.out.ent
  go_wp2_with fail
  clear d0 d1 d2 d3 d4 d5 d6
  have hs7 : (w6.alloc (.cells #[.int .i64 2, .int .i64 3, .int .i64 2, .int .i64 0, .int .i64 0, .int .i64 0, .string ⟨#[]⟩] 35)).heap.size = w6.heap.size + 1 := by simp
  obtain ⟨k6, hk6⟩ : ∃ k, w6.heap.size = k := ⟨_, rfl⟩
  rw [hk6] at J6 hg6 hs7 ⊢
  have hk6g : k6 ≠ w.heap.size := Nat.ne_of_gt hg6
  clear hk6
  generalize w6.alloc (.cells #[.int .i64 2, .int .i64 3, .int .i64 2, .int .i64 0, .int .i64 0, .int .i64 0, .string ⟨#[]⟩] 35) = w7 at *
  have hg7 : w.heap.size < w7.heap.size := S6.out.p.lt
  have S8 := Lib.hid (S6.out.alloc (.cells #[.int .i64 2, .int .i64 3, .int .i64 1, .int .i64 1, .int .i64 1, .int .i64 0, .string ⟨#[120]⟩] 35))
  have K8 := Lib.hid (K6.out.alloc (.cells #[.int .i64 2, .int .i64 3, .int .i64 1, .int .i64 1, .int .i64 1, .int .i64 0, .string ⟨#[120]⟩] 35))
  have J8 := Lib.hid (J6.out.alloc (.cells #[.int .i64 2, .int .i64 3, .int .i64 1, .int .i64 1, .int .i64 1, .int .i64 0, .string ⟨#[120]⟩] 35))
  have KN := Blk.newEnt w7 35 ⟨2, 3, 1, 1, 1, 0, ⟨#[120]⟩⟩
  have R8 := Lib.hid (show Rd (w7.alloc (.cells #[.int .i64 2, .int .i64 3, .int .i64 1, .int .i64 1, .int .i64 1, .int .i64 0, .string ⟨#[120]⟩] 35)) (w7.alloc (.cells #[.int .i64 2, .int .i64 3, .int .i64 1, .int .i64 1, .int .i64 1, .int .i64 0, .string ⟨#[120]⟩] 35)).heap.size (some ⟨w7.heap.size, 0, none⟩) 1 7 1 (els [⟨2, 3, 1, 1, 1, 0, ⟨#[120]⟩⟩]) from
    ⟨rfl, Nat.le_refl _, by unfold maxLen; omega, (fun hh => by cases hh), fun _ => ⟨w7.heap.size, 0, rfl, KN.lt, fun j u hu => by rw [Nat.zero_add]; exact KN.cell hu⟩⟩)
  have hne : bk (some ⟨w7.heap.size, 0, none⟩) ≠ some w.heap.size := by simp [bk]; omega
  rw [hs7] at R8 hne
  clear KN S6 K6 J6 hs7
  generalize w7.alloc (.cells #[.int .i64 2, .int .i64 3, .int .i64 1, .int .i64 1, .int .i64 1, .int .i64 0, .string ⟨#[120]⟩] 35) = w8 at *
  refine (S8.out.done R8.out (fun _ => hne)).mono ?_
  rw [left_begun]
  rintro x w9 ⟨he, s, t⟩
  have he : x = .returned (.int .i64 1) := he
  subst he
  have S9 := Lib.hid s
  have K9 := Lib.hid (K8.out.touch t (by rw [List.mem_singleton]; exact hkg))
  have J9 := Lib.hid (J8.out.touch t (by rw [List.mem_singleton]; exact hk6g))
  clear s t S8 K8 J8 R8
  go_wp2_with fail
  refine S9.out.list.mono ?_
  rintro x w10 ⟨A', c', rfl, own, b10⟩
  have SA := Lib.hid (S9.out.past b10)
  have RA := Rd.of_own own
  obtain ⟨b, o, y, rfl, -, hy, -, g0, g1, g2, g3, g4, g5, g6⟩ := RA.ent (i := 0) (by simp)
  obtain rfl : ⟨2, 3, 2, 0, 0, 0, ⟨#[]⟩⟩ = y := by simpa using hy
  obtain ⟨d0, d1, d2, d3, d4, d5, d6⟩ := (K9.out.past b10).ent
  obtain ⟨f0, f1, f2, f3, f4, f5, f6⟩ := (J9.out.past b10).ent
  clear own b10 RA hy S9 K9 J9
  go_wp2_with fail
  refine SA.out.len.mono ?_
  rintro x w11 ⟨rfl, rfl⟩
  go_wp2_with fail
  go_ret
  exact ⟨rfl, SA.out.bel⟩
end Go.Proofs.Ytmlmngoieabjbaa
