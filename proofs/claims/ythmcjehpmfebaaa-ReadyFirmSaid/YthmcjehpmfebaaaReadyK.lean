/- A law's queue beside its list of entries; the statements' begun. -/
import Derived.Test.YthmcjehpmfebaaaReadyH
namespace Go.Proofs.Ythmcjehpmfebaaa
open Go.RowKit PReady

/-- The queue at g told T; l is the list (at A); w0: the world at the law's beginning. -/
structure Sx (w0 w : World) (g : Nat) (F : List Nat) (T : List Tl) (A : Option Addr) (c n : Nat) (l : List Ent) : Prop where
  qu : Qu w g F T
  low : ∀ k ∈ F, w0.heap.size ≤ k
  bel : Below w0.heap.size w0 w
  rd : Rd w w.heap.size A c 7 n (els l)
  sep : 0 < n * 7 → ∀ k ∈ F, bk A ≠ some k
section
variable {w0 w w' : World} {g : Nat} {F : List Nat} {T : List Tl} {A : Option Addr} {c n : Nat} {l : List Ent}
theorem Sx.past (h : Sx w0 w g F T A c n l) (hb : Below w.heap.size w w') : Sx w0 w' g F T A c n l :=
  ⟨h.qu.past hb, h.low, h.bel.trans (hb.mono h.bel.size), (h.rd.past hb).tight, h.sep⟩
theorem Sx.drew (h : Sx w0 w g F T A c n l) : Sx w0 w.drew g F T A c n l := ⟨h.qu.drew, h.low, h.bel.drew, h.rd, h.sep⟩
theorem Sx.of_qw {F' : List Nat} {T' : List Tl} (h : Sx w0 w g F T A c n l) (hq : Qu w' g F' T') (hs : ∀ k ∈ F', k ∈ F ∨ w.heap.size ≤ k) (ht : Touch F w w') : Sx w0 w' g F' T' A c n l := by
  refine ⟨hq, fun k hk => ?_, h.bel.trans (ht.below h.low h.bel.size), (h.rd.touch ht h.sep).tight, fun hz k hk => ?_⟩
  · rcases hs k hk with q | q
    · exact h.low k q
    · exact Nat.le_trans h.bel.size q
  · rcases hs k hk with q | q
    · exact h.sep hz k q
    · obtain ⟨b, o, hA, hb, _⟩ := h.rd.2.2.2.2 hz
      intro e
      rw [hA] at e
      have : b = k := by simpa [bk] using e
      omega
/-- A call of Go. -/
theorem Sx.go (h : Sx w0 w g F T A c n l) (hfit : ∀ e ∈ l, PEnt.Fit e) (hap : Apart l) (hn : n ≤ 60) (hT : T.length + n ≤ 1000000) (commit now : Int) :
    Calls Try.prog 17 #[.pointer (some ⟨g, 0, none⟩), .slice A n c, .int .i64 commit, .int .i64 now] w fun x w' => ∃ A' c' F', x = .returned (.slice A' (go commit now T l).length c') ∧
      w'.ownsRow w.heap.size 44 8 (.slice A' (go commit now T l).length c') (go commit now T l).length (tls (go commit now T l)) ∧ Sx w0 w' g F' (T ++ PReady.go commit now T l) A c n l ∧ (∀ k ∈ F', k ∈ F ∨ w.heap.size ≤ k) ∧ Touch F w w' := by
  refine (Go_c w g F T h.qu A c n l h.rd h.sep hfit hap hn hT commit now).mono ?_
  rintro x w' ⟨A', c', rfl, ho, hq⟩
  obtain ⟨F', q1, q2⟩ := hq.ex
  exact ⟨A', c', F', rfl, ho, h.of_qw q1 q2 hq.touch, q2, hq.touch⟩
end

def eB : Ent := ⟨1, 1, 1, 2, 1, 4, ⟨#[]⟩⟩
def fB : Ent := ⟨1, 1, 2, 1, 2, 4, ⟨#[]⟩⟩
theorem bg1 : go 2 6 [] [eB, fB] = [] := rfl
theorem bg2 : go 2 7 [] [eB, fB] = [(1, eB), (2, fB)] := rfl
theorem bg3 : go 2 9 [(1, eB), (2, fB)] [eB, fB] = [] := rfl
theorem bg_has : has [(1, eB), (2, fB)] eB = true := rfl
theorem bg_fit : ∀ e ∈ [eB, fB], PEnt.Fit e := by
  intro e he
  simp only [List.mem_cons, List.not_mem_nil, or_false] at he
  rcases he with rfl | rfl
  · exact ⟨by decide, by decide, by decide, by decide, by decide, by decide⟩
  · exact ⟨by decide, by decide, by decide, by decide, by decide, by decide⟩
theorem bg_ap : Apart [eB, fB] := by
  unfold Apart
  simp [List.pairwise_cons, PEnt.same, eB, fB]

set_option maxHeartbeats 8000000 in
set_option maxRecDepth 100000 in
theorem begun_c (w : World) :
    Calls Try.prog 12 #[] w fun x w' => x = .returned (.bool true) ∧ Below w.heap.size w w' := by
  go_enter Try.func12, Try.ntmps12
  go_wp2_with fail
  refine (New_c w).mono ?_
  rintro x w1 ⟨rfl, q1, b1⟩
  obtain ⟨g, hg⟩ : ∃ g, w.heap.size = g := ⟨_, rfl⟩
  have hg1 : g < w1.heap.size := by have := q1.hi w.heap.size (List.mem_cons_self ..); omega
  have b2 := (Below.refl w1.heap.size w1).alloc (Nat.le_refl _) (.cells #[.int .i64 1, .int .i64 1, .int .i64 1, .int .i64 2, .int .i64 1, .int .i64 4, .string ⟨#[]⟩, .int .i64 1, .int .i64 1, .int .i64 2, .int .i64 1, .int .i64 2, .int .i64 4, .string ⟨#[]⟩] 39)
  have r2 := Rd.new w1 #[.int .i64 1, .int .i64 1, .int .i64 1, .int .i64 2, .int .i64 1, .int .i64 4, .string ⟨#[]⟩, .int .i64 1, .int .i64 1, .int .i64 2, .int .i64 1, .int .i64 2, .int .i64 4, .string ⟨#[]⟩] 39 7 2 rfl (by unfold maxLen; omega)
  have SX := Lib.hid (show Sx w (w1.alloc (.cells #[.int .i64 1, .int .i64 1, .int .i64 1, .int .i64 2, .int .i64 1, .int .i64 4, .string ⟨#[]⟩, .int .i64 1, .int .i64 1, .int .i64 2, .int .i64 1, .int .i64 2, .int .i64 4, .string ⟨#[]⟩] 39)) g [g] [] (some ⟨w1.heap.size, 0, none⟩) 2 2 [eB, fB] from
    ⟨by rw [← hg]; exact q1.past b2, fun k hk => by rw [List.mem_singleton.1 hk]; omega, b1.trans (b2.mono b1.size), r2.tight, fun _ k hk e => by
      rw [List.mem_singleton.1 hk] at e
      have : w1.heap.size = g := by simpa [bk] using e
      omega⟩)
  have KR := Lib.hid (show Rd (w1.alloc (.cells #[.int .i64 1, .int .i64 1, .int .i64 1, .int .i64 2, .int .i64 1, .int .i64 4, .string ⟨#[]⟩, .int .i64 1, .int .i64 1, .int .i64 2, .int .i64 1, .int .i64 2, .int .i64 4, .string ⟨#[]⟩] 39)) (w1.heap.size + 1) (some ⟨w1.heap.size, 0, none⟩) 2 7 2 (els [eB, fB]) from r2)
  clear q1 b1 b2 r2
  rw [hg]
  go_wp2_with fail
  clear KR
  generalize w1.heap.size = k at *
  generalize (w1.alloc (.cells #[.int .i64 1, .int .i64 1, .int .i64 1, .int .i64 2, .int .i64 1, .int .i64 4, .string ⟨#[]⟩, .int .i64 1, .int .i64 1, .int .i64 2, .int .i64 1, .int .i64 2, .int .i64 4, .string ⟨#[]⟩] 39)) = w2 at *
  clear hg hg1
  refine (show Calls Try.prog _ #[.pointer (some ⟨g, 0, none⟩), .slice (some ⟨k, 0, none⟩) 2 2, .int .i64 2, .int .i64 6] w2 _ from SX.out.go bg_fit bg_ap (by decide) (by decide) 2 6).mono ?_
  rw [bg1]
  rintro x w3 ⟨A3, c3, F3, rfl, -, s3, -, -⟩
  have S3 := Lib.hid s3
  clear s3 SX
  go_wp2_with fail
  refine (show Calls Try.prog _ #[.pointer (some ⟨g, 0, none⟩), .slice (some ⟨k, 0, none⟩) 2 2, .int .i64 2, .int .i64 7] w3 _ from S3.out.go bg_fit bg_ap (by decide) (by decide) 2 7).mono ?_
  rw [show ([] : List Tl) ++ [] = [] from rfl, bg2]
  rintro x w4 ⟨A4, c4, F4, rfl, o4, s4, -, -⟩
  have S4 := Lib.hid (show Sx w w4 g F4 [(1, eB), (2, fB)] _ _ _ _ from s4)
  have O4 := Lib.hid (Rd.of_own o4)
  clear s4 o4 S3
  obtain ⟨b, o, t, rfl, hb, ht, -, hr⟩ := O4.out.told (i := 0) (by decide)
  obtain ⟨b', o', t', hA, hb', ht', -, hr'⟩ := O4.out.told (i := 1) (by decide)
  cases hA
  obtain rfl : (1, eB) = t := Option.some.inj ht
  obtain rfl : (2, fB) = t' := Option.some.inj ht'
  have h0 := range_at hr
  have h1 := range_at hr'
  simp only [Nat.zero_mul, Nat.one_mul, Nat.add_zero] at h0 h1
  clear hr hr' ht ht' O4
  go_wp2_with fail
  clear h0 h1 hb hb'
  refine (Told_c w4 g F4 _ S4.out.qu).mono ?_
  rintro x w5 ⟨A5, c5, rfl, -, b5⟩
  have S5 := Lib.hid (S4.out.past b5)
  clear S4 b5
  obtain ⟨b6, o6, e6, hA6, -, he6, -, d0, d1, d2, d3, d4, d5, d6⟩ := S5.out.rd.ent (i := 0) (by decide)
  cases hA6
  obtain rfl : eB = e6 := Option.some.inj he6
  clear he6
  simp only [eB, Nat.zero_mul, Nat.add_zero] at d0 d1 d2 d3 d4 d5 d6
  go_wp2_with fail
  clear d0 d1 d2 d3 d4 d5 d6
  refine (show Calls Try.prog _ #[_, .agg #[.int .i64 1, .int .i64 1, .int .i64 1, .int .i64 2, .int .i64 1, .int .i64 4, .string ⟨#[]⟩]] w5 _ from Has_c w5 g F4 _ S5.out.qu eB (bg_fit eB (List.mem_cons_self ..))).mono ?_
  rw [bg_has]
  rintro x w6 ⟨rfl, b6⟩
  have S6 := Lib.hid (S5.out.past b6)
  clear S5 b6
  go_wp2_with fail
  refine (show Calls Try.prog _ #[.pointer (some ⟨g, 0, none⟩), .slice (some ⟨k, 0, none⟩) 2 2, .int .i64 2, .int .i64 9] w6 _ from S6.out.go bg_fit bg_ap (by decide) (by decide) 2 9).mono ?_
  rw [bg3]
  rintro x w7 ⟨A7, c7, F7, rfl, -, s7, -, -⟩
  have S7 := Lib.hid s7.bel
  clear s7 S6
  go_wp2_with fail
  go_ret
  exact ⟨rfl, S7.out⟩
end Go.Proofs.Ythmcjehpmfebaaa
