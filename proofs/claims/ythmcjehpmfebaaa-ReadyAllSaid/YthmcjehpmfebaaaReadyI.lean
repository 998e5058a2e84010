/- The document's queue: one slice; contracts of its Has, of EqTold. -/
import Derived.Test.YthmcjehpmfebaaaReadyB
import Derived.Test.YthmcjehpmfebaaaEntM
namespace Go.Proofs.Ythmcjehpmfebaaa
open Go.RowKit PReady

/-- The document's queue at block g holds T; F are its blocks. -/
structure Rq (w : World) (g : Nat) (F : List Nat) (T : List Tl) : Prop where
  ex : ∃ A c, Blk w g 32 [.slice A T.length c] ∧ Ow w 0 44 8 A T.length c (tls T) ∧ F = g :: bl A
  le : T.length ≤ 1000000
section
variable {w w' : World} {g : Nat} {F S : List Nat} {T : List Tl}
theorem Rq.hi (h : Rq w g F T) : ∀ k ∈ F, k < w.heap.size := by
  obtain ⟨A, c, hB, hO, rfl⟩ := h.ex
  intro k hk
  rcases List.mem_cons.1 hk with rfl | hk
  · exact hB.lt
  · exact hO.hi k (mem_bl.1 hk)
theorem Rq.touch (h : Rq w g F T) (ht : Touch S w w') (hd : ∀ k ∈ S, k ∉ F) : Rq w' g F T := by
  obtain ⟨A, c, hB, hO, rfl⟩ := h.ex
  exact ⟨⟨A, c, hB.touch ht (fun hm => hd g hm (List.mem_cons_self ..)), hO.touch ht (fun s hs e => hd s hs (List.mem_cons_of_mem _ (mem_bl.2 e))), rfl⟩, h.le⟩
theorem Rq.past (h : Rq w g F T) (hb : Below w.heap.size w w') : Rq w' g F T := h.touch (S := []) (.of_below hb) (by simp)
theorem Rq.drew (h : Rq w g F T) : Rq w.drew g F T := ⟨h.ex, h.le⟩
theorem Rq.alloc (h : Rq w g F T) (o : Obj) : Rq (w.alloc o) g F T := h.past ((Below.refl _ _).alloc (Nat.le_refl _) _)
theorem Rq.open (h : Rq w g F T) : ∃ A c, Blk w g 32 [.slice A T.length c] ∧ Rd w w.heap.size A c 8 T.length (tls T) ∧ (∀ k, bk A = some k → k ∈ F) := by
  obtain ⟨A, c, hB, hO, rfl⟩ := h.ex
  exact ⟨A, c, hB, hO.rd, fun k hk => List.mem_cons_of_mem _ (mem_bl.2 hk)⟩
/-- A block of another type is none of its. -/
theorem Rq.not {k : Nat} {t : TypeId} {xs : List Value} (h : Rq w g F T) (hB : Blk w k t xs) (h1 : t ≠ 32) (h2 : t ≠ 44) : k ∉ F := by
  obtain ⟨A, c, hg, hO, rfl⟩ := h.ex
  intro hk
  rcases List.mem_cons.1 hk with hk | hk
  · exact hB.ne hg h1 hk
  · exact hO.ne hB (Ne.symm h2) (mem_bl.1 hk)
structure RW (w w' : World) (g : Nat) (F : List Nat) (T : List Tl) : Prop where
  ex : ∃ F', Rq w' g F' T ∧ ∀ k ∈ F', k ∈ F ∨ w.heap.size ≤ k
  touch : Touch F w w'
theorem RW.ahead {w2 : World} (h : RW w w' g F T) (hb : Below w'.heap.size w' w2) : RW w w2 g F T := by
  obtain ⟨⟨F', h1, h2⟩, h3⟩ := h
  exact ⟨⟨F', h1.past hb, h2⟩, h3.trans (.of_below hb)⟩
theorem RW.trans {w1 w2 : World} {F' : List Nat} {T' : List Tl} (hF : ∀ k ∈ F', k ∈ F ∨ w.heap.size ≤ k) (ht : Touch F w w1) (k : RW w1 w2 g F' T') : RW w w2 g F T' := by
  obtain ⟨⟨F2, h1, h2⟩, h3⟩ := k
  refine ⟨⟨F2, h1, fun k hk => ?_⟩, ⟨h3.os.trans ht.os, h3.tape.trans ht.tape, h3.output.trans ht.output, Nat.le_trans ht.size h3.size, fun k hk hn => ?_⟩⟩
  · rcases h2 k hk with q | q
    · exact hF k q
    · exact .inr (Nat.le_trans ht.size q)
  · refine (h3.block k (Nat.lt_of_lt_of_le hk ht.size) (fun hm => ?_)).trans (ht.block k hk hn)
    rcases hF k hm with q | q
    · exact hn q
    · omega
/-- Behind an append to its slice, stored. -/
theorem Rq.app {A A2 : Option Addr} {c c2 : Nat} {t : Tl} {w2 : World} (hB : Blk w g 32 [.slice A T.length c]) (hO : Ow w 0 44 8 A T.length c (tls T)) (hl : T.length < 1000000)
    (hg : w.grownBy w2 (bk A)) (hA : ∀ k, bk A2 = some k → bk A = some k ∨ w.heap.size ≤ k) (hO2 : Ow w2 0 44 8 A2 (T.length + 1) c2 (tls T ++ tcs t)) :
    RW w (w2.setRow g #[.slice A2 (T.length + 1) c2]) g (g :: bl A) (T ++ [t]) := by
  have hne : bk A ≠ some g := hO.ne hB (by decide)
  have hT : Touch (g :: bl A) w w2 := (Touch.of_bk hg).wide (fun k hk => List.mem_cons_of_mem _ hk)
  have hB2 : Blk w2 g 32 [.slice A T.length c] := hB.touch (Touch.of_bk hg) (fun hm => hne (mem_bl.1 hm))
  have hne2 : bk A2 ≠ some g := hO2.ne hB2 (by decide)
  have hs := Touch.of_grown (grown_row w2 g #[.slice A2 (T.length + 1) c2])
  refine ⟨⟨g :: bl A2, ⟨⟨A2, c2, ?_, ?_, rfl⟩, by simp; omega⟩, fun k hk => ?_⟩, hT.trans (hs.wide (by simp))⟩
  · have := hB2.row #[.slice A2 (T.length + 1) c2]
    simpa using this
  · have := hO2.touch hs (by simpa using hne2)
    have e1 : tls (T ++ [t]) = tls T ++ tcs t := by rw [tls_append]; simp [tls]
    rw [e1]; simpa using this
  · rcases List.mem_cons.1 hk with rfl | hk
    · exact .inl (List.mem_cons_self ..)
    · rcases hA k (mem_bl.1 hk) with q | q
      · exact .inl (List.mem_cons_of_mem _ (mem_bl.2 q))
      · exact .inr q
end
theorem has_take {T : List Tl} {e : Ent} {i : Nat} {t : Tl} (he : T[i]? = some t) (h : has (T.take i) e = false) (hp : PEnt.same t.2 e = false) : has (T.take (i + 1)) e = false := by
  obtain ⟨hi, rfl⟩ := List.getElem?_eq_some_iff.1 he
  rw [← List.take_append_getElem hi, has_snoc, h, hp]; rfl
theorem has_at {T : List Tl} {e : Ent} {i : Nat} {t : Tl} (he : T[i]? = some t) (hp : PEnt.same t.2 e = true) : has T e = true := by
  unfold has
  rw [List.any_eq_true]
  exact ⟨t, List.mem_of_getElem? he, hp⟩

set_option maxHeartbeats 4000000 in
set_option maxRecDepth 100000 in
theorem rHasQ_c (w : World) (g : Nat) (F : List Nat) (T : List Tl) (h : Rq w g F T) (e : Ent) :
    Calls Try.prog 20 #[.pointer (some ⟨g, 0, none⟩), ev e] w fun x w' => x = .returned (.bool (has T e)) ∧ Below w.heap.size w w' := by
  obtain ⟨A, c, hB, hR, -⟩ := h.open
  have hcap := hR.cap
  have hle := hR.le
  have hn : T.length ≤ 9223372036854775807 := by unfold maxLen at hcap; omega
  have R0 := Lib.hid (hR.alloc (.cells #[.int .i64 e.fr, .int .i64 e.boot, .int .i64 e.seq, .int .i64 e.ord, .int .i64 e.lev, .int .i64 e.stamp, .string e.data] 39))
  have G0 := Lib.hid (hB.alloc (.cells #[.int .i64 e.fr, .int .i64 e.boot, .int .i64 e.seq, .int .i64 e.ord, .int .i64 e.lev, .int .i64 e.stamp, .string e.data] 39))
  have b0 := Lib.hid ((Below.refl w.heap.size w).alloc (Nat.le_refl _) (.cells #[.int .i64 e.fr, .int .i64 e.boot, .int .i64 e.seq, .int .i64 e.ord, .int .i64 e.lev, .int .i64 e.stamp, .string e.data] 39))
  have K0 := Lib.hid (Blk.newEnt w 39 e)
  clear h hB hR hcap hle
  show Calls _ _ #[_, .agg #[.int .i64 e.fr, .int .i64 e.boot, .int .i64 e.seq, .int .i64 e.ord, .int .i64 e.lev, .int .i64 e.stamp, .string e.data]] _ _
  go_enter Try.func20, Try.ntmps20
  go_wp2_with fail
  generalize (w.alloc (.cells #[.int .i64 e.fr, .int .i64 e.boot, .int .i64 e.seq, .int .i64 e.ord, .int .i64 e.lev, .int .i64 e.stamp, .string e.data] 39)) = w1 at *
  go_loopw [5] (fun s5 wr => ∃ i : Nat, i ≤ T.length ∧ s5 = .int .i64 i ∧ Hid (has (T.take i) e = false) ∧ Hid (Below w1.heap.size w1 wr)) (fun s5 _ => T.length - (intOf s5).toNat)
  case atStart => exact ⟨0, by omega, rfl, Lib.hid rfl, Lib.hid (Below.refl _ _)⟩
  case round =>
    obtain ⟨i, hi, rfl, HP, BL⟩ := hrel
    have KG := G0.out.below BL.out G0.out.lt
    have d0 := KG.cell (i := 0) rfl
    by_cases hlt : i < T.length
    · obtain ⟨b, o, y, rfl, hb, hy, -, hr⟩ := (R0.out.tight.below BL.out).told hlt
      have HY := Lib.hid hy
      have HB := Lib.hid (show b < wr.drew.heap.size from Nat.lt_of_lt_of_le hb BL.out.size)
      have HR := Lib.hid (show wr.drew.rangeAt b (o + i * 8) (tcs y) from hr)
      have K1 := Lib.hid (show Blk wr.drew w.heap.size 39 (ecs e) from (K0.out.below BL.out K0.out.lt).drew)
      have LT := Lib.hid (show w.heap.size < wr.drew.heap.size from K1.out.lt)
      have BG := Lib.hid (show Blk wr.drew g 32 _ from KG)
      have LG := Lib.hid (show g < wr.drew.heap.size from BG.out.lt)
      clear hy hb hr KG
      cases hq : PEnt.same y.2 e
      · have HP' := Lib.hid (has_take HY.out HP.out hq)
        have HS := Lib.hid hq
        clear hq
        go_wp2_with fail
        clear d0
        refine Hb.begin ?_
        refine Hb.take (v := .pointer (some ⟨g, 0, none⟩)) 0 15 rfl ?_ (fun _ _ => rfl)
        refine Hb.take (v := .pointer (some ⟨g, 0, none⟩)) 1 16 rfl ?_ (fun _ _ => rfl)
        refine Hb.take (v := .pointer (some ⟨g, 0, none⟩)) 2 17 rfl ?_ (fun w' hw' => by go_simp)
        refine Hb.take (v := .slice (some ⟨b, o, none⟩) T.length c) 3 18 rfl ?_ (fun w' hw' => run_loadS ((BG.out.below hw' LG.out).cell (i := 0) rfl) rfl)
        refine Hb.take (v := .int .i64 (i : Int)) 4 19 rfl ?_ (fun _ _ => rfl)
        refine Hb.take (v := .pointer (some ⟨b, o + i * 8, none⟩)) 5 20 rfl ?_ (fun w' hw' => by go_simp; first | done | rfl | omega | (simp; omega))
        refine Hb.take (v := .pointer (some ⟨b, o + i * 8 + 1, none⟩)) 6 21 rfl ?_ (fun w' hw' => by go_simp; first | done | rfl | omega)
        refine Hb.take (v := ev y.2) 7 22 rfl ?_ (fun w' hw' => run_loadE (range_ent (rangeAt_below HR.out hw' HB.out)) rfl)
        refine Hb.take (v := ev e) 8 23 rfl ?_ (fun w' hw' => run_loadE ((K1.out.below hw' LT.out).range) rfl)
        refine Hb.call (f := 22) (args := #[ev y.2, ev e]) 9 24 rfl ?_ (run_callf Try.func22 (by kernel_rfl) (by kernel_rfl) (by simp only [List.map_toArray, List.map_cons, List.map_nil]; rfl))
        refine (rSame_c wr.drew y.2 e).mono ?_
        rw [HS.out]
        rintro x w3 ⟨rfl, b3⟩
        refine Hb.back b3 (Nat.le_refl _) ?_
        refine Hb.done ?_
        go_wp2_with fail
        go_roundw
        case rel => exact ⟨i + 1, by omega, by go_num, HP', Lib.hid (BL.out.drew.trans (b3.mono BL.out.size))⟩
        case measure => simp [intOf]; omega
      · have HP' := Lib.hid (has_at HY.out hq)
        have HS := Lib.hid hq
        clear hq
        go_wp2_with fail
        clear d0
        refine Hb.begin ?_
        refine Hb.take (v := .pointer (some ⟨g, 0, none⟩)) 0 15 rfl ?_ (fun _ _ => rfl)
        refine Hb.take (v := .pointer (some ⟨g, 0, none⟩)) 1 16 rfl ?_ (fun _ _ => rfl)
        refine Hb.take (v := .pointer (some ⟨g, 0, none⟩)) 2 17 rfl ?_ (fun w' hw' => by go_simp)
        refine Hb.take (v := .slice (some ⟨b, o, none⟩) T.length c) 3 18 rfl ?_ (fun w' hw' => run_loadS ((BG.out.below hw' LG.out).cell (i := 0) rfl) rfl)
        refine Hb.take (v := .int .i64 (i : Int)) 4 19 rfl ?_ (fun _ _ => rfl)
        refine Hb.take (v := .pointer (some ⟨b, o + i * 8, none⟩)) 5 20 rfl ?_ (fun w' hw' => by go_simp; first | done | rfl | omega | (simp; omega))
        refine Hb.take (v := .pointer (some ⟨b, o + i * 8 + 1, none⟩)) 6 21 rfl ?_ (fun w' hw' => by go_simp; first | done | rfl | omega)
        refine Hb.take (v := ev y.2) 7 22 rfl ?_ (fun w' hw' => run_loadE (range_ent (rangeAt_below HR.out hw' HB.out)) rfl)
        refine Hb.take (v := ev e) 8 23 rfl ?_ (fun w' hw' => run_loadE ((K1.out.below hw' LT.out).range) rfl)
        refine Hb.call (f := 22) (args := #[ev y.2, ev e]) 9 24 rfl ?_ (run_callf Try.func22 (by kernel_rfl) (by kernel_rfl) (by simp only [List.map_toArray, List.map_cons, List.map_nil]; rfl))
        refine (rSame_c wr.drew y.2 e).mono ?_
        rw [HS.out]
        rintro x w3 ⟨rfl, b3⟩
        refine Hb.back b3 (Nat.le_refl _) ?_
        refine Hb.done ?_
        go_wp2_with fail
        go_ret
        exact ⟨by rw [HP'.out]; rfl, b0.out.trans ((BL.out.drew.trans (b3.mono BL.out.size)).mono b0.out.size)⟩
    · obtain rfl : i = T.length := by omega
      have HF := Lib.hid (show has T e = false by have := HP.out; rwa [List.take_of_length_le (Nat.le_refl _)] at this)
      go_wp2_with fail
      go_ret
      exact ⟨by rw [HF.out]; rfl, b0.out.trans (BL.out.mono b0.out.size)⟩

set_option maxHeartbeats 4000000 in
set_option maxRecDepth 100000 in
/-- Two slices that read alike. -/
theorem EqTold_c (w : World) (B1 B2 : Nat) (A A2 : Option Addr) (c c2 n : Nat) (X : List Tl) (h : Rd w B1 A c 8 n (tls X)) (h2 : Rd w B2 A2 c2 8 n (tls X)) :
    Calls Try.prog 16 #[.slice A n c, .slice A2 n c2] w fun x w' => x = .returned (.bool true) ∧ Below w.heap.size w w' := by
  have hcap := h.cap
  have hle := h.le
  have hn : n ≤ 9223372036854775807 := by unfold maxLen at hcap; omega
  have hle2 := h2.le
  have R1 := Lib.hid h.tight
  have R2 := Lib.hid h2.tight
  have jn : ((n : Int) != (n : Int)) = false := by simp
  clear h h2 hcap
  go_enter Try.func16, Try.ntmps16
  go_wp2_with fail
  go_loopw [5] (fun s5 wr => ∃ i : Nat, i ≤ n ∧ s5 = .int .i64 i ∧ Hid (Below w.heap.size w wr)) (fun s5 _ => n - (intOf s5).toNat)
  case atStart => exact ⟨0, by omega, rfl, Lib.hid (Below.refl _ _)⟩
  case round =>
    obtain ⟨i, hi, rfl, BL⟩ := hrel
    by_cases hlt : i < n
    · obtain ⟨b, o, y, rfl, hb, hy, -, hr⟩ := (R1.out.below BL.out).told hlt
      obtain ⟨b', o', y', rfl, hb', hy', -, hr'⟩ := (R2.out.below BL.out).told hlt
      obtain rfl : y = y' := by have := hy.symm.trans hy'; exact Option.some.inj this
      have HB := Lib.hid (show b < wr.heap.size from Nat.lt_of_lt_of_le hb BL.out.size)
      have HB' := Lib.hid (show b' < wr.heap.size from Nat.lt_of_lt_of_le hb' BL.out.size)
      have HR := Lib.hid (show wr.drew.rangeAt b (o + i * 8) (tcs y) from hr)
      have HR' := Lib.hid (show wr.drew.rangeAt b' (o' + i * 8) (tcs y) from hr')
      have HE := Lib.hid (show PEnt.eqE y.2 y.2 = true from (PEnt.eqE_iff _ _).2 rfl)
      have jp : (y.1 != y.1) = false := by simp
      clear hb hb' hy hy' hr hr'
      go_wp2_with fail
      refine Hb.begin ?_
      refine Hb.take (v := .slice (some ⟨b, o, none⟩) n c) 0 17 rfl ?_ (fun _ _ => rfl)
      refine Hb.take (v := .int .i64 (i : Int)) 1 18 rfl ?_ (fun _ _ => rfl)
      refine Hb.take (v := .pointer (some ⟨b, o + i * 8, none⟩)) 2 19 rfl ?_ (fun w' hw' => by go_simp; first | done | rfl | omega | (simp; omega))
      refine Hb.take (v := .pointer (some ⟨b, o + i * 8, none⟩)) 3 20 rfl ?_ (fun w' hw' => by go_simp; first | done | rfl | omega)
      refine Hb.take (v := .int .i64 y.1) 4 21 rfl ?_ (fun w' hw' => run_loadInt (range_at (rangeAt_below HR.out hw' HB.out)) rfl)
      refine Hb.take (v := .slice (some ⟨b', o', none⟩) n c2) 5 22 rfl ?_ (fun _ _ => rfl)
      refine Hb.take (v := .int .i64 (i : Int)) 6 23 rfl ?_ (fun _ _ => rfl)
      refine Hb.take (v := .pointer (some ⟨b', o' + i * 8, none⟩)) 7 24 rfl ?_ (fun w' hw' => by go_simp; first | done | rfl | omega | (simp; omega))
      refine Hb.take (v := .pointer (some ⟨b', o' + i * 8, none⟩)) 8 25 rfl ?_ (fun w' hw' => by go_simp; first | done | rfl | omega)
      refine Hb.take (v := .int .i64 y.1) 9 26 rfl ?_ (fun w' hw' => run_loadInt (range_at (rangeAt_below HR'.out hw' HB'.out)) rfl)
      refine Hb.take (v := .bool false) 10 27 rfl ?_ (fun w' hw' => by go_simp)
      refine Hb.take (v := .bool false) 11 28 rfl ?_ (fun _ _ => rfl)
      refine Hb.take (v := .slice (some ⟨b, o, none⟩) n c) 12 29 rfl ?_ (fun _ _ => rfl)
      refine Hb.take (v := .int .i64 (i : Int)) 13 30 rfl ?_ (fun _ _ => rfl)
      refine Hb.take (v := .pointer (some ⟨b, o + i * 8, none⟩)) 14 31 rfl ?_ (fun w' hw' => by go_simp; first | done | rfl | omega | (simp; omega))
      refine Hb.take (v := .pointer (some ⟨b, o + i * 8 + 1, none⟩)) 15 32 rfl ?_ (fun w' hw' => by go_simp; first | done | rfl | omega)
      refine Hb.take (v := ev y.2) 16 33 rfl ?_ (fun w' hw' => run_loadE (range_ent (rangeAt_below HR.out hw' HB.out)) rfl)
      refine Hb.take (v := .slice (some ⟨b', o', none⟩) n c2) 17 34 rfl ?_ (fun _ _ => rfl)
      refine Hb.take (v := .int .i64 (i : Int)) 18 35 rfl ?_ (fun _ _ => rfl)
      refine Hb.take (v := .pointer (some ⟨b', o' + i * 8, none⟩)) 19 36 rfl ?_ (fun w' hw' => by go_simp; first | done | rfl | omega | (simp; omega))
      refine Hb.take (v := .pointer (some ⟨b', o' + i * 8 + 1, none⟩)) 20 37 rfl ?_ (fun w' hw' => by go_simp; first | done | rfl | omega)
      refine Hb.take (v := ev y.2) 21 38 rfl ?_ (fun w' hw' => run_loadE (range_ent (rangeAt_below HR'.out hw' HB'.out)) rfl)
      refine Hb.call (f := 24) (args := #[ev y.2, ev y.2]) 22 39 rfl ?_ (run_callf Try.func24 (by kernel_rfl) (by kernel_rfl) (by simp only [List.map_toArray, List.map_cons, List.map_nil]; rfl))
      refine (rEq_c wr.drew y.2 y.2).mono ?_
      rw [HE.out]
      rintro x w3 ⟨rfl, b3⟩
      refine Hb.back b3 (Nat.le_refl _) ?_
      refine Hb.take (v := .bool false) 23 40 rfl ?_ (fun w' hw' => by go_simp)
      refine Hb.take (v := .bool false) 24 41 rfl ?_ (fun _ _ => rfl)
      refine Hb.done ?_
      go_wp2_with fail
      go_roundw
      case rel => exact ⟨i + 1, by omega, by go_num, Lib.hid (BL.out.drew.trans (b3.mono BL.out.size))⟩
      case measure => simp [intOf]; omega
    · obtain rfl : i = n := by omega
      go_wp2_with fail
      go_ret
      exact ⟨rfl, BL.out⟩
end Go.Proofs.Ythmcjehpmfebaaa
