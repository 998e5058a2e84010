/- Contracts: only, Pool. -/
import Derived.Test.YthffglfckcickaaOnceE
namespace Go.Proofs.Ythffglfckcickaa
open Go.RowKit

/-- A cell's own make: the literal of 'only' over the variables bm, bi. -/
abbrev onlyOf (bm bi : Nat) : Value := .func (.func 28) #[] #[.pointer (some ⟨bm, 0, none⟩), .pointer (some ⟨bi, 0, none⟩)]
/-- The cell at g was not asked yet; its make is mk(i). All of it lies from block B on. -/
def Seed (B : Nat) (mk : Value) (w : World) (g : Nat) (i : Nat) : Prop :=
  ∃ bm bi, Cel w g 0 0 0 (onlyOf bm bi) nilS ∧ Blk w bm 35 [mk] ∧ Blk w bi 3 [.int .i64 i] ∧ B ≤ g ∧ B ≤ bm ∧ B ≤ bi
def ptr (g : Nat) : Value := .pointer (some ⟨g, 0, none⟩)

theorem Seed.touch {B : Nat} {mk : Value} {w w' : World} {g i : Nat} {S : List Nat} (h : Seed B mk w g i) (ht : Touch S w w') (hg : g ∉ S)
    (hs : ∀ s ∈ S, s < B ∨ (∀ ys, ¬ Blk w s 35 ys ∧ ¬ Blk w s 3 ys)) : Seed B mk w' g i := by
  obtain ⟨bm, bi, C, M, I, h1, h2, h3⟩ := h
  refine ⟨bm, bi, C.touch ht hg, M.touch ht fun hm => ?_, I.touch ht fun hm => ?_, h1, h2, h3⟩
  · rcases hs _ hm with h | h
    · omega
    · exact (h _).1 M
  · rcases hs _ hm with h | h
    · omega
    · exact (h _).2 I
theorem Seed.past {B : Nat} {mk : Value} {w w' : World} {g i : Nat} (h : Seed B mk w g i) (hb : Below w.heap.size w w') : Seed B mk w' g i := by
  obtain ⟨bm, bi, C, M, I, h1, h2, h3⟩ := h
  exact ⟨bm, bi, C.past hb, M.past hb, I.past hb, h1, h2, h3⟩
theorem Seed.lt {B : Nat} {mk : Value} {w : World} {g i : Nat} (h : Seed B mk w g i) : g < w.heap.size := by
  obtain ⟨bm, bi, C, M, I, h1, h2, h3⟩ := h
  exact Blk.lt C
/-- The block of what is owned. -/
theorem own_blk {w : World} {base k n : Nat} {e : TypeId} {v : Value} {xs : List Value} (h : w.ownsRow base e k v n xs) {g : Nat} (hg : v.ownBlock = some g) : ∃ ys, Blk w g e ys := by
  rcases h.2 with ⟨rfl, _⟩ | ⟨g', cap, cur, rfl, _, hh, _⟩
  · cases hg
  · obtain rfl : g' = g := by simpa [Value.ownBlock] using hg
    exact ⟨cur.toList, by simpa [Blk] using hh⟩

theorem only_c (w : World) (K : FuncId) (cap : Array Value) (i : Int) :
    Calls Try.prog 24 #[.func (.func K) #[] cap, .int .i64 i] w fun e w' => ∃ bm bi, e = .returned (onlyOf bm bi) ∧ Blk w' bm 35 [.func (.func K) #[] cap] ∧ Blk w' bi 3 [.int .i64 i] ∧ w.heap.size ≤ bm ∧ w.heap.size ≤ bi ∧ Below w.heap.size w w' := by
  have hmf : ∀ (fn : Fn) (first cap : Array Value) (w : World), (Instr.makeFunc fn first cap).run Try.prog w = .ok (.func fn first cap) w := fun _ _ _ _ => rfl
  have heq := makeI_eql
  have B1 : Blk _ _ 35 [.func (.func K) #[] cap] := (Blk.new w #[.func (.func K) #[] cap] 35).alloc (.cells #[.int .i64 i] 3)
  have B2 : Blk _ _ 3 [.int .i64 i] := Blk.new (w.alloc (.cells #[.func (.func K) #[] cap] 35)) #[.int .i64 i] 3
  have hs : (w.alloc (.cells #[.func (.func K) #[] cap] 35)).heap.size = w.heap.size + 1 := by simp
  rw [hs] at B2
  have hb : Below w.heap.size w ((w.alloc (.cells #[.func (.func K) #[] cap] 35)).alloc (.cells #[.int .i64 i] 3)) := ((Below.refl _ _).alloc (Nat.le_refl _) _).alloc (by rw [hs]; omega) _
  have hc1 := Blk.cell B1 (i := 0) rfl
  clear hs
  go_enter Try.func24, Try.ntmps24
  go_wp2
  go_ret
  exact ⟨_, _, rfl, B1, B2, Nat.le_refl _, by omega, hb⟩

/-- How many cells. -/
def poolLen (n : Int) : Nat := (min n 64).toNat
/-- What Pool gives: cells not asked yet. -/
def PoolOf (B : Nat) (mk : Value) (w : World) (gs : List Nat) : Prop := (∀ i g, gs[i]? = some g → Seed B mk w g i) ∧ gs.Nodup
theorem ptr_info : (Try.prog.info? 24).map (fun i => (i.zero, i.size, i.bytes)) = some (some (.pointer none), 1, 8) := by kernel_rfl

theorem PoolOf.nil (B : Nat) (mk : Value) (w : World) : PoolOf B mk w [] := ⟨fun _ _ h => by simp at h, List.nodup_nil⟩
theorem PoolOf.snoc {B : Nat} {mk : Value} {w w' : World} {gs S : List Nat} {g : Nat} (h : PoolOf B mk w gs) (hb : Touch S w w') (hS : ∀ s ∈ S, s ∉ gs ∧ (s < B ∨ (∀ ys, ¬ Blk w s 35 ys ∧ ¬ Blk w s 3 ys))) (hg : Seed B mk w' g gs.length) (hn : g ∉ gs) : PoolOf B mk w' (gs ++ [g]) := by
  refine ⟨fun i k hk => ?_, ?_⟩
  · rw [List.getElem?_append] at hk
    split at hk
    · exact (h.1 i k hk).touch hb (fun hm => (hS k hm).1 (List.mem_of_getElem? hk)) fun s hs => (hS s hs).2
    · next hi =>
      rw [List.getElem?_singleton] at hk
      split at hk
      · next hi2 =>
        obtain rfl : g = k := by simpa using hk
        obtain rfl : i = gs.length := by omega
        exact hg
      · cases hk
  · rw [List.nodup_append]
    exact ⟨h.2, by simp, fun a ha b hb' => by obtain rfl : b = g := by simpa using hb'
                                              rintro rfl; exact hn ha⟩

set_option maxHeartbeats 2000000 in
set_option maxRecDepth 100000 in
theorem Pool_c (w : World) (n : Int) (K : FuncId) (cap : Array Value) :
    Calls Try.prog 15 #[.int .i64 n, .func (.func K) #[] cap] w fun e w' => ∃ A c gs, e = .returned (.slice A (poolLen n) c) ∧ gs.length = poolLen n ∧ w'.ownsRow w.heap.size 24 1 (.slice A (poolLen n) c) (poolLen n) (gs.map ptr) ∧ PoolOf w.heap.size (.func (.func K) #[] cap) w' gs ∧ Below w.heap.size w w' := by
  have hp1 : n ≤ 0 → poolLen n = 0 := fun _ => by unfold poolLen; omega
  have hp2 : 0 < n → n ≤ 64 → (poolLen n : Int) = n := fun _ _ => by unfold poolLen; omega
  have hp3 : 64 < n → poolLen n = 64 := fun _ => by unfold poolLen; omega
  generalize poolLen n = m at *
  have HP1 := Lib.hid hp1; have HP2 := Lib.hid hp2; have HP3 := Lib.hid hp3
  clear hp1 hp2 hp3
  have hm64 : m ≤ 64 := by have := HP1.out; have := HP2.out; have := HP3.out; omega
  by_cases h64 : 64 < n
  all_goals
    go_enter Try.func15, Try.ntmps15
    go_wp2_with fail
    go_loopw [5, 9] (fun s5 s9 wr => ∃ j : Nat, ∃ A c gs, j ≤ m ∧ s9 = .int .i64 j ∧ s5 = .slice A j c ∧ gs.length = j ∧ wr.ownsRow w.heap.size 24 1 (.slice A j c) j (gs.map ptr) ∧ PoolOf w.heap.size (.func (.func K) #[] cap) wr gs ∧ Below w.heap.size w wr) (fun _ s9 _ => m - (intOf s9).toNat)
    case atStart => exact ⟨0, none, 0, [], by omega, rfl, rfl, rfl, World.ownsRow_nil _ _ _ _, PoolOf.nil _ _ _, Below.refl _ _⟩
    case round =>
      obtain ⟨j, A, c, gs, hjm, rfl, rfl, hgl, hown, hP, hb⟩ := hrel
      by_cases hj : j < m
      · have q1 : (j : Int) < n := by have := HP1.out; have := HP2.out; have := HP3.out; omega
        have q2 : (j : Int) < 64 := by omega
        go_wp2_with fail
        refine (only_c wr K cap j).mono ?_
        rintro e w1 ⟨bm, bi, rfl, B1, B2, hbm, hbi, hb1⟩
        have hlm := B1.lt
        have hli := B2.lt
        go_wp2_with fail
        refine (New_k w1 _ _).mono ?_
        rintro e w2 ⟨rfl, C2, hb2, -⟩
        have hsz := hb.size
        have hsz1 := hb1.size
        have hsz2 := hb2.size
        have hown2 := own_below (own_below hown hb1) hb2
        have hbb := (hb.trans (hb1.mono hsz)).trans (hb2.mono (by omega))
        have hszb := hbb.size
        go_wp2_with (at_builtin; go_must (refine wpList_push rfl (.tmp 12) (.tmp 17) _ rfl w.heap.size 24 _ 8 Try.underlying33 ptr_info rfl A c j (gs.map ptr) rfl hown2 rfl rfl ?c2 ?c3 ?c4 ?_))
        case c2 => unfold maxLen; omega
        case c3 => omega
        case c4 => omega
        intro A' c' w3 hown3 hgrow3 hbel3
        have tt : Touch (Value.slice A j c).ownBlock.toList wr w3 := ((Touch.of_below hb1).trans (Touch.of_below hb2)).trans (Touch.of_grown_none hgrow3 (by simp))
        have t23 : Touch (Value.slice A j c).ownBlock.toList w2 w3 := Touch.of_grown_none hgrow3 (by simp)
        go_wp2_with fail
        go_roundw
        case rel =>
          refine ⟨j + 1, A', c', gs ++ [w1.heap.size], by omega, by go_num, rfl, by simp [hgl], by simpa [ptr] using hown3, ?_, hbb.trans hbel3⟩
          have hno : ∀ s ∈ (Value.slice A j c).ownBlock.toList, ∀ v : World, v.ownsRow w.heap.size 24 1 (.slice A j c) j (gs.map ptr) → ∃ ys, Blk v s 24 ys := fun s hs v hv => own_blk hv (by simpa using hs)
          refine hP.snoc tt (fun s hs => ?_) ?_ ?_
          · obtain ⟨ys, hy⟩ := hno s hs wr hown
            refine ⟨fun hm => ?_, .inr fun zs => ⟨fun hz => Blk.ne hy hz (by decide) rfl, fun hz => Blk.ne hy hz (by decide) rfl⟩⟩
            obtain ⟨i, hi⟩ := List.mem_iff_getElem?.1 hm
            obtain ⟨_, _, C, _⟩ := hP.1 i s hi
            exact Blk.ne hy C (by decide) rfl
          · rw [hgl]
            refine Seed.touch (S := (Value.slice A j c).ownBlock.toList) (w := w2) ⟨bm, bi, C2, B1.past hb2, B2.past hb2, by omega, by omega, by omega⟩ t23 (fun hm => ?_) (fun s hs => ?_)
            · obtain ⟨ys, hy⟩ := hno _ hm w2 hown2
              exact Blk.ne hy C2 (by decide) rfl
            · obtain ⟨ys, hy⟩ := hno s hs w2 hown2
              exact .inr fun zs => ⟨fun hz => Blk.ne hy hz (by decide) rfl, fun hz => Blk.ne hy hz (by decide) rfl⟩
          · intro hm
            obtain ⟨i, hi⟩ := List.mem_iff_getElem?.1 hm
            have := (hP.1 i _ hi).lt
            omega
        case measure => simp [intOf]; omega
      · obtain rfl : j = m := by omega
        first
          | have q2 : ¬ (j : Int) < 64 := by have := HP3.out h64; omega
          | have q1 : ¬ (j : Int) < n := by have := HP1.out; have := HP2.out; omega
        go_wp2_with fail
        go_ret
        exact ⟨A, c, rfl, gs, hgl, hown, hP, hb⟩
end Go.Proofs.Ythffglfckcickaa
