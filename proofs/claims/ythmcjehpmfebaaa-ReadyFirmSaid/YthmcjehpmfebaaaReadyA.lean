/- The program's queue: what was told in a slice, its broadcasts as a map's keys; broadcastOf. -/
import Derived.Test.YthmcjehpmfebaaaTold
import Derived.Test.YthmcjehpmfebaaaHeldT
import Derived.Maps.OwnSet
import Derived.DeepKeys4
import Derived.WalkSpells
namespace Go.Proofs.Ythmcjehpmfebaaa
open Go.RowKit PReady
open Go.Maps (Keyed)

/-- A broadcast by value, as a key. -/
def bv (e : Ent) : Value := .agg #[.int .i64 e.fr, .int .i64 e.boot, .int .i64 e.seq]
def bkey (e : Ent) : Lit := .string (keyBytes [.int .i64 e.fr, .int .i64 e.boot, .int .i64 e.seq])
theorem laidB : laidOutB Try.prog = true := by kernel_rfl
theorem lawB : Keyed Try.prog 67 := Keyed.of_law (deep_law_laid laidB (m := 2) (by omega) (of_decide_eq_true (by kernel_rfl)) (by kernel_rfl) (by kernel_rfl))
theorem zeroU (w : World) : (zeroValue 64).run Try.prog w = .ok (.agg #[]) w := by kernel_rfl
theorem keyTypeB : Try.prog.keyType 67 = true := by kernel_rfl
theorem sizeB : ∃ m, Try.prog.types.size = m + 1 := ⟨Try.prog.types.size - 1, by kernel_rfl⟩
theorem cellsB : Try.prog.cellsOf 67 = 3 := by kernel_rfl
theorem cellsInt : Try.prog.cellsOf 3 = 1 := by kernel_rfl
theorem cellsI64 : Try.prog.cellsOf 2 = 1 := by kernel_rfl
theorem keyOf_b {e : Ent} (h : PEnt.Fit e) : keyOf Try.prog 67 (bv e) = some (bkey e) := by
  obtain ⟨m, hm⟩ := sizeB
  have w0 := WalkArith.wf_i64 h.f0
  have w1 := WalkArith.wf_i64 h.f1
  have w2 := WalkArith.wf_i64 h.f2
  unfold keyOf
  rw [Try.underlying67]
  simp only [keyTypeB, bv, Value.formed, Try.underlying67, cellsB]
  rw [hm]
  simp [Program.keyLits, Try.underlying67, Try.underlying3, Try.underlying2, cellsB, cellsInt, cellsI64, Value.cells, w0, w1, w2, bkey]
theorem bkey_inj {a b : Ent} (ha : PEnt.Fit a) (hb : PEnt.Fit b) (h : bkey a = bkey b) : PEnt.same a b = true := by
  have h1 := keyOf_b ha
  rw [h] at h1
  have := lawB.inj h1 (keyOf_b hb)
  simp only [bv, Value.agg.injEq] at this
  have h2 : [Value.int .i64 a.fr, .int .i64 a.boot, .int .i64 a.seq] = [.int .i64 b.fr, .int .i64 b.boot, .int .i64 b.seq] := congrArg Array.toList this
  simp at h2
  simp [PEnt.same, h2]
theorem bkey_same {a b : Ent} (h : PEnt.same a b = true) : bkey a = bkey b := by
  simp only [PEnt.same, Bool.and_eq_true, beq_iff_eq] at h
  obtain ⟨⟨h1, h2⟩, h3⟩ := h
  simp [bkey, h1, h2, h3]

/-- The map M holds just the broadcasts of T. -/
def Mb (w : World) (b : Nat) (T : List Tl) : Prop := ∃ D, w.ownsMap Try.prog 67 (unitElem (H := Unit)) b T.length D ∧ ∀ e, PEnt.Fit e → Maps.has D (bkey e) = has T e
def Mq (w : World) (M : Value) (T : List Tl) : Prop := (M = .map none ∧ T = []) ∨ ∃ b, M = .map (some b) ∧ Mb w b T
def ml : Value → List Nat
  | .map (some b) => [b]
  | _ => []

section
variable {w w' : World} {b g : Nat} {M : Value} {T : List Tl} {F S : List Nat}
theorem Mb.lt (h : Mb w b T) : b < w.heap.size := by obtain ⟨D, h, _⟩ := h; exact h.lt
theorem Mb.touch (h : Mb w b T) (ht : Touch S w w') (hs : b ∉ S) : Mb w' b T := by
  obtain ⟨D, h1, h2⟩ := h
  refine ⟨D, ?_, h2⟩
  have hlt := h1.lt
  obtain ⟨es, clock, hb, r⟩ := h1
  exact ⟨es, clock, (ht.block b hlt hs).trans hb, r⟩
theorem Mb.made (w : World) : Mb (w.alloc (.map #[] 0)) w.heap.size [] := ⟨_, World.ownsMap_made _ _ _ _, fun _ _ => rfl⟩
/-- A block of cells is no map. -/
theorem Mb.ne {e : TypeId} {xs : List Value} (h : Mb w b T) (h' : Blk w g e xs) : b ≠ g := by
  rintro rfl
  obtain ⟨D, ⟨es, clock, hb, _⟩, _⟩ := h
  rw [h'] at hb
  cases hb
theorem Mq.touch (h : Mq w M T) (ht : Touch S w w') (hs : ∀ k ∈ S, k ∉ ml M) : Mq w' M T := by
  rcases h with h | ⟨b, rfl, h⟩
  · exact .inl h
  · exact .inr ⟨b, rfl, h.touch ht (fun hm => hs b hm (List.mem_singleton.2 rfl))⟩
theorem Mq.hi (h : Mq w M T) : ∀ k ∈ ml M, k < w.heap.size := by
  rcases h with ⟨rfl, _⟩ | ⟨b, rfl, h⟩
  · intro k hk; cases hk
  · intro k hk
    rw [List.mem_singleton.1 hk]
    exact h.lt
theorem Mq.ne {e : TypeId} {xs : List Value} (h : Mq w M T) (h' : Blk w g e xs) : g ∉ ml M := by
  rcases h with ⟨rfl, _⟩ | ⟨b, rfl, h⟩
  · intro hk; cases hk
  · intro hk
    exact h.ne h' (List.mem_singleton.1 hk).symm
/-- 'm[k]' with 'ok'. -/
theorem Mq.look (h : Mq w M T) {e : Ent} (hf : PEnt.Fit e) : (Instr.lookup 57 M (bv e) true).run Try.prog w = .ok (.tuple #[.agg #[], .bool (has T e)]) w := by
  rcases h with ⟨rfl, rfl⟩ | ⟨b, rfl, D, h1, h2⟩
  · rw [Maps.look_nil true lawB Try.underlying57 (zeroU w) (keyOf_b hf)]
    rfl
  · obtain ⟨v, ps, hr, hv⟩ := h1.look_ok lawB Try.underlying57 (zeroU w) unitElem_mk (keyOf_b hf)
    obtain ⟨rfl, _⟩ := unitElem_inv hv
    rw [hr, h2 e hf]
theorem run_lookB {dst : Option Tmp} {x m : Operand} {ty : TypeId} {pos : String} {after : Array Edge} {guard : Option (Nat × Bool)} {ρ : Operand → Value} {e : Ent}
    (h : Mq w M T) (hf : PEnt.Fit e) (hm : ρ m = M) (hx : ρ x = bv e) :
    (execOp ρ { dst, op := .lookup 57 m x true, type := ty, pos, after, guard }).run Try.prog w = .ok (.value (.tuple #[.agg #[], .bool (has T e)])) w := by
  unfold execOp
  simp only [hm, hx, Sem.run_bind, h.look hf, Result.andThen_ok, Sem.run_pure]
/-- 'm[k] = struct{}{}'. -/
theorem Mb.put (h : Mb w b T) (t : Tl) (hf : PEnt.Fit t.2) (hl : T.length < maxLen) : ∃ w', (Instr.mapUpdate 57 (.map (some b)) (bv t.2) (.agg #[])).run Try.prog w = .ok () w' ∧ Mb w' b (T ++ [t]) ∧ w.grownBy w' (some b) := by
  obtain ⟨D, h1, h2⟩ := h
  have hk := keyOf_b hf
  obtain ⟨w', hr, ho, hg⟩ := h1.update lawB Try.underlying57 hl hk unitElem_mk
  refine ⟨w', hr, ⟨_, by rw [List.length_append]; exact ho, fun e he => ?_⟩, hg⟩
  rw [has_snoc]
  by_cases hs : PEnt.same t.2 e = true
  · rw [hs, Bool.or_true, ← bkey_same hs]
    exact Maps.has_put_same h1.isMap (lawB.key hk) _
  · rw [Maps.has_put_other (fun hq => hs (bkey_inj hf he hq.symm)), h2 e he]
    have : PEnt.same t.2 e = false := by simpa using hs
    rw [this, Bool.or_false]
theorem wpList_putB {ops : Array Oper} {rest : List Oper} {o : Oper} {a : Act} {Q : Exit → Act → World → Prop} (hg : o.guard = none) (m x v : Operand) (hop : o.op = Op.mapUpdate 57 m x v)
    (h : Mb w b T) (t : Tl) (hf : PEnt.Fit t.2) (hl : T.length < maxLen) (hm : a.eval m = .map (some b)) (hx : a.eval x = bv t.2) (hv : a.eval v = .agg #[])
    (hK : ∀ w', Mb w' b (T ++ [t]) → w.grownBy w' (some b) → wpList Try.prog ops Q rest (a.put o.dst undef) w') : wpList Try.prog ops Q (o :: rest) a w := by
  refine wpList_plain hg fun K' hK' => ?_
  obtain ⟨w', hrun, r1, r2⟩ := h.put t hf hl
  unfold Oper.wp
  simp [execOp, hop, hm, hx, hv, hrun, Result.andThen]
  exact hK' _ _ (hK w' r1 r2)
/-- The map is loaded. -/
theorem run_loadM {dst : Option Tmp} {x : Operand} {ty : TypeId} {pos : String} {after : Array Edge} {guard : Option (Nat × Bool)} {ρ : Operand → Value} {p : Addr} {q : Option Nat}
    (h : w.cell? p = some (.map q)) (hx : ρ x = .pointer (some p)) : (execOp ρ { dst, op := .load 57 x, type := ty, pos, after, guard }).run Try.prog w = .ok (.value (.map q)) w := by
  go_simp

/-- The queue at block g told T; F are its blocks. -/
structure Qu (w : World) (g : Nat) (F : List Nat) (T : List Tl) : Prop where
  ex : ∃ A c q, Blk w g 59 [.slice A T.length c, .map q] ∧ Ow w 0 44 8 A T.length c (tls T) ∧ Mq w (.map q) T ∧ F = g :: (bl A ++ ml (.map q))
  le : T.length ≤ 1000000
theorem Qu.hi (h : Qu w g F T) : ∀ k ∈ F, k < w.heap.size := by
  obtain ⟨A, c, q, hB, hO, hM, rfl⟩ := h.ex
  intro k hk
  rcases List.mem_cons.1 hk with rfl | hk
  · exact hB.lt
  · rcases List.mem_append.1 hk with hk | hk
    · exact hO.hi k (mem_bl.1 hk)
    · exact hM.hi k hk
theorem Qu.touch (h : Qu w g F T) (ht : Touch S w w') (hd : ∀ k ∈ S, k ∉ F) : Qu w' g F T := by
  obtain ⟨A, c, q, hB, hO, hM, rfl⟩ := h.ex
  exact ⟨⟨A, c, q, hB.touch ht (fun hm => hd g hm (List.mem_cons_self ..)), hO.touch ht (fun s hs e => hd s hs (List.mem_cons_of_mem _ (List.mem_append_left _ (mem_bl.2 e)))),
    hM.touch ht (fun s hs e => hd s hs (List.mem_cons_of_mem _ (List.mem_append_right _ e))), rfl⟩, h.le⟩
theorem Qu.past (h : Qu w g F T) (hb : Below w.heap.size w w') : Qu w' g F T := h.touch (S := []) (.of_below hb) (by simp)
theorem Qu.drew (h : Qu w g F T) : Qu w.drew g F T := ⟨h.ex, h.le⟩
theorem Qu.alloc (h : Qu w g F T) (o : Obj) : Qu (w.alloc o) g F T := h.past ((Below.refl _ _).alloc (Nat.le_refl _) _)
theorem Qu.self (h : Qu w g F T) : g ∈ F := by obtain ⟨A, c, q, hB, hO, hM, rfl⟩ := h.ex; exact List.mem_cons_self ..
/-- Its cells. -/
theorem Qu.open (h : Qu w g F T) : ∃ A c q, w.cell? ⟨g, 0, none⟩ = some (.slice A T.length c) ∧ w.cell? ⟨g, 1, none⟩ = some (.map q) ∧ Rd w w.heap.size A c 8 T.length (tls T) ∧ Mq w (.map q) T ∧ (∀ k, bk A = some k → k ∈ F) := by
  obtain ⟨A, c, q, hB, hO, hM, rfl⟩ := h.ex
  exact ⟨A, c, q, hB.cell (i := 0) rfl, hB.cell (i := 1) rfl, hO.rd, hM, fun k hk => List.mem_cons_of_mem _ (List.mem_append_left _ (mem_bl.2 hk))⟩
/-- What a call leaves that writes the queue at block g, whose blocks were F. -/
structure QW (w w' : World) (g : Nat) (F : List Nat) (T : List Tl) : Prop where
  ex : ∃ F', Qu w' g F' T ∧ ∀ k ∈ F', k ∈ F ∨ w.heap.size ≤ k
  touch : Touch F w w'
theorem QW.same (h : Qu w g F T) (hb : Below w.heap.size w w') : QW w w' g F T := ⟨⟨F, h.past hb, fun _ hk => .inl hk⟩, .of_below hb⟩
theorem QW.behind {w0 : World} (h : QW w w' g F T) (hb : Below w0.heap.size w0 w) : QW w0 w' g F T := by
  obtain ⟨⟨F', h1, h2⟩, h3⟩ := h
  exact ⟨⟨F', h1, fun k hk => (h2 k hk).imp id (fun h => Nat.le_trans hb.size h)⟩, (Touch.of_below hb).trans h3⟩
theorem QW.ahead {w2 : World} (h : QW w w' g F T) (hb : Below w'.heap.size w' w2) : QW w w2 g F T := by
  obtain ⟨⟨F', h1, h2⟩, h3⟩ := h
  exact ⟨⟨F', h1.past hb, h2⟩, h3.trans (.of_below hb)⟩
/-- Two such calls. -/
theorem QW.trans {w1 w2 : World} {F' : List Nat} {T' : List Tl} (hF : ∀ k ∈ F', k ∈ F ∨ w.heap.size ≤ k) (ht : Touch F w w1) (k : QW w1 w2 g F' T') : QW w w2 g F T' := by
  obtain ⟨⟨F2, h1, h2⟩, h3⟩ := k
  refine ⟨⟨F2, h1, fun k hk => ?_⟩, ⟨h3.os.trans ht.os, h3.tape.trans ht.tape, h3.output.trans ht.output, Nat.le_trans ht.size h3.size, fun k hk hn => ?_⟩⟩
  · rcases h2 k hk with q | q
    · exact hF k q
    · exact .inr (Nat.le_trans ht.size q)
  · refine (h3.block k (Nat.lt_of_lt_of_le hk ht.size) (fun hm => ?_)).trans (ht.block k hk hn)
    rcases hF k hm with q | q
    · exact hn q
    · omega
end

set_option maxRecDepth 100000 in
theorem broadcastOf_c (w : World) (e : Ent) : Calls Try.prog 30 #[ev e] w fun x w' => x = .returned (bv e) ∧ Below w.heap.size w w' := by
  have b0 := (Below.refl w.heap.size w).alloc (Nat.le_refl _) (.cells #[.int .i64 e.fr, .int .i64 e.boot, .int .i64 e.seq, .int .i64 e.ord, .int .i64 e.lev, .int .i64 e.stamp, .string e.data] 39)
  have b1 := b0.alloc (by simp) (.cells #[.int .i64 0, .int .i64 0, .int .i64 0] 67)
  have K := Blk.new (w.alloc (.cells #[.int .i64 e.fr, .int .i64 e.boot, .int .i64 e.seq, .int .i64 e.ord, .int .i64 e.lev, .int .i64 e.stamp, .string e.data] 39)) #[.int .i64 0, .int .i64 0, .int .i64 0] 67
  rw [show (w.alloc (.cells #[.int .i64 e.fr, .int .i64 e.boot, .int .i64 e.seq, .int .i64 e.ord, .int .i64 e.lev, .int .i64 e.stamp, .string e.data] 39)).heap.size = w.heap.size + 1 by simp] at K
  have b2 := Lib.hid (b1.trans (grown_below (grown_row _ (w.heap.size + 1) #[.int .i64 e.fr, .int .i64 e.boot, .int .i64 e.seq]) (by omega) b1.size))
  have K2 := Lib.hid (K.row #[.int .i64 e.fr, .int .i64 e.boot, .int .i64 e.seq])
  have K1 := Lib.hid K
  clear b0 b1 K
  show Calls _ _ #[.agg #[.int .i64 e.fr, .int .i64 e.boot, .int .i64 e.seq, .int .i64 e.ord, .int .i64 e.lev, .int .i64 e.stamp, .string e.data]] _ _
  go_enter Try.func30, Try.ntmps30
  go_wp2_with ((with_reducible show wpList _ _ _ ((⟨none, Op.store 67 (.tmp 2) _, _, _, _, _⟩ : Oper) :: _) _ _); go_must (refine wpList_store_row rfl 67 (.tmp 2) _ rfl (w.heap.size + 1) _ rfl rfl _ _ K1.out (by kernel_rfl) (by rfl) (by kernel_rfl) ?_))
  refine bodyPost_ret (v := bv e) (results_cell_row rfl _ _ (w.heap.size + 1) _ _ _ _ rfl K2.out Try.underlying67 rfl (by kernel_rfl)) rfl ⟨rfl, b2.out⟩
end Go.Proofs.Ythmcjehpmfebaaa
