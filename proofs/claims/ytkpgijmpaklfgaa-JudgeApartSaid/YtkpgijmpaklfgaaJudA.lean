/- A set of entries: a map keyed by an entry; broadcastOf, unstamped of package judge. -/
import Derived.Test.YtkpgijmpaklfgaaPlainJud
import Derived.Test.YtkpgijmpaklfgaaTold
import Derived.Test.YtkpgijmpaklfgaaTouch
import Derived.Maps.OwnSet
import Derived.DeepKeys4
import Derived.WalkSpells
namespace Go.Proofs.Ytkpgijmpaklfgaa
open Go.RowKit PReady PJud
open Go.Maps (Keyed)

def ekey (e : Ent) : Lit := .string (keyBytes [.int .i64 e.fr, .int .i64 e.boot, .int .i64 e.seq, .int .i64 e.ord, .int .i64 e.lev, .int .i64 e.stamp, .string e.data.data.toList])
theorem laidE : laidOutB Try.prog = true := by kernel_rfl
theorem lawE : Keyed Try.prog 30 := Keyed.of_law (deep_law_laid laidE (m := 2) (by omega) (of_decide_eq_true (by kernel_rfl)) (by kernel_rfl) (by kernel_rfl))
theorem zeroU (w : World) : (zeroValue 46).run Try.prog w = .ok (.agg #[]) w := by kernel_rfl
theorem keyTypeE : Try.prog.keyType 30 = true := by kernel_rfl
theorem sizeE : ∃ m, Try.prog.types.size = m + 1 := ⟨Try.prog.types.size - 1, by kernel_rfl⟩
theorem cellsE : Try.prog.cellsOf 30 = 7 := by kernel_rfl
theorem cellsInt : Try.prog.cellsOf 3 = 1 := by kernel_rfl
theorem cellsI64 : Try.prog.cellsOf 2 = 1 := by kernel_rfl
theorem cellsStr : Try.prog.cellsOf 9 = 1 := by kernel_rfl
theorem keyOf_e {e : Ent} (h : EntOk e) : keyOf Try.prog 30 (ev e) = some (ekey e) := by
  obtain ⟨m, hm⟩ := sizeE
  have w0 := WalkArith.wf_i64 h.fit.f0
  have w1 := WalkArith.wf_i64 h.fit.f1
  have w2 := WalkArith.wf_i64 h.fit.f2
  have w3 := WalkArith.wf_i64 h.fit.f3
  have w4 := WalkArith.wf_i64 h.fit.f4
  have w5 := WalkArith.wf_i64 h.fit.f5
  have w6 := h.sz
  unfold keyOf
  rw [Try.underlying30]
  simp only [keyTypeE, ev, Value.formed, Try.underlying30, cellsE]
  rw [hm]
  simp [Program.keyLits, Try.underlying30, Try.underlying3, Try.underlying2, Try.underlying9, cellsE, cellsInt, cellsI64, cellsStr, Value.cells, w0, w1, w2, w3, w4, w5, w6, ekey]
theorem ekey_inj {a b : Ent} (ha : EntOk a) (hb : EntOk b) (h : ekey a = ekey b) : a = b := by
  have h1 := keyOf_e ha
  rw [h] at h1
  have := lawE.inj h1 (keyOf_e hb)
  simp only [ev, Value.agg.injEq] at this
  have h2 : [Value.int .i64 a.fr, .int .i64 a.boot, .int .i64 a.seq, .int .i64 a.ord, .int .i64 a.lev, .int .i64 a.stamp, .string a.data] = [.int .i64 b.fr, .int .i64 b.boot, .int .i64 b.seq, .int .i64 b.ord, .int .i64 b.lev, .int .i64 b.stamp, .string b.data] := congrArg Array.toList this
  simp at h2
  obtain ⟨a0, a1, a2, a3, a4, a5, a6⟩ := a
  obtain ⟨b0, b1, b2, b3, b4, b5, b6⟩ := b
  simp at h2
  simp [h2]

/-- The map at block b holds just the entries K; it was written c times at most. -/
def Mk (w : World) (b : Nat) (K : List Ent) (c : Nat) : Prop := ∃ D, w.ownsMap Try.prog 30 (unitElem (H := Unit)) b c D ∧ (∀ e, EntOk e → Maps.has D (ekey e) = K.any (fun x => PEnt.eqE x e)) ∧ Maps.size D = K.length
section
variable {w w' : World} {b c : Nat} {K : List Ent} {S : List Nat}
theorem Mk.lt (h : Mk w b K c) : b < w.heap.size := by obtain ⟨D, h, _⟩ := h; exact h.lt
theorem Mk.below {B : Nat} (h : Mk w b K c) (hb : Below B w w') (hB : b < B) : Mk w' b K c := by
  obtain ⟨D, ⟨es, clock, hbk, r⟩, h2⟩ := h
  exact ⟨D, ⟨es, clock, (hb.block b hB).trans hbk, r⟩, h2⟩
theorem Mk.past (h : Mk w b K c) (hb : Below w.heap.size w w') : Mk w' b K c := h.below hb h.lt
theorem Mk.drew (h : Mk w b K c) : Mk w.drew b K c := h
theorem Mk.alloc (h : Mk w b K c) (o : Obj) : Mk (w.alloc o) b K c := h.past ((Below.refl _ _).alloc (Nat.le_refl _) _)
theorem Mk.made (w : World) : Mk (w.alloc (.map #[] 0)) w.heap.size [] 0 := ⟨_, World.ownsMap_made _ _ _ _, fun _ _ => rfl, rfl⟩
/-- 'm[k]' with 'ok'. -/
theorem Mk.look (h : Mk w b K c) {e : Ent} (hf : EntOk e) : (Instr.lookup 45 (.map (some b)) (ev e) true).run Try.prog w = .ok (.tuple #[.agg #[], .bool (K.any (fun x => PEnt.eqE x e))]) w := by
  obtain ⟨D, h1, h2, _⟩ := h
  obtain ⟨v, ps, hr, hv⟩ := h1.look_ok lawE Try.underlying45 (zeroU w) unitElem_mk (keyOf_e hf)
  obtain ⟨rfl, _⟩ := unitElem_inv hv
  rw [hr, h2 e hf]
/-- 'm[k] = struct{}{}'. -/
theorem Mk.put (h : Mk w b K c) {e : Ent} (hf : EntOk e) (hl : c < maxLen) : ∃ w', (Instr.mapUpdate 45 (.map (some b)) (ev e) (.agg #[])).run Try.prog w = .ok () w' ∧ Mk w' b (ins K e) (c + 1) ∧ w.grownBy w' (some b) := by
  obtain ⟨D, h1, h2, h3⟩ := h
  have hk := keyOf_e hf
  obtain ⟨w', hr, ho, hg⟩ := h1.update lawE Try.underlying45 hl hk unitElem_mk
  refine ⟨w', hr, ⟨_, ho, fun e' he => ?_, ?_⟩, hg⟩
  · rw [ins_any]
    by_cases hs : e = e'
    · subst hs
      rw [Maps.has_put_same h1.isMap (lawE.key hk), (PEnt.eqE_iff e e).2 rfl, Bool.or_true]
    · rw [Maps.has_put_other (fun hq => hs (ekey_inj hf he hq.symm)), h2 e' he]
      have : PEnt.eqE e e' = false := by
        cases hq : PEnt.eqE e e' with
        | false => rfl
        | true => exact absurd ((PEnt.eqE_iff _ _).1 hq) hs
      rw [this, Bool.or_false]
  · rw [Maps.size_put (h1.tidy lawE), h2 e hf, h3]
    unfold ins
    split
    · rfl
    · simp
theorem wpList_putK {ops : Array Oper} {rest : List Oper} {o : Oper} {a : Act} {Q : Exit → Act → World → Prop} (hg : o.guard = none) (m x v : Operand) (hop : o.op = Op.mapUpdate 45 m x v)
    (h : Mk w b K c) {e : Ent} (hf : EntOk e) (hl : c < maxLen) (hm : a.eval m = .map (some b)) (hx : a.eval x = ev e) (hv : a.eval v = .agg #[])
    (hK : ∀ w', Mk w' b (ins K e) (c + 1) → w.grownBy w' (some b) → wpList Try.prog ops Q rest (a.put o.dst undef) w') : wpList Try.prog ops Q (o :: rest) a w := by
  refine wpList_plain hg fun K' hK' => ?_
  obtain ⟨w', hrun, r1, r2⟩ := h.put hf hl
  unfold Oper.wp
  simp [execOp, hop, hm, hx, hv, hrun, Result.andThen]
  exact hK' _ _ (hK w' r1 r2)
end

/-- A row of cells stays where a map is written. -/
theorem Rd.farM {w w' : World} {b c c' k n : Nat} {K : List Ent} {A : Option Addr} {xs : List Value} (h : Rd w w.heap.size A c k n xs) (hM : Mk w b K c') (hg : w.grownBy w' (some b)) : Rd w' w'.heap.size A c k n xs := by
  refine (h.touch (S := [b]) (Touch.of_grown hg) (fun hn s hs e => ?_)).tight
  rw [List.mem_singleton.1 hs] at e
  obtain ⟨b', o, hA, _, hc⟩ := h.2.2.2.2 hn
  rw [hA] at e
  have hb : b' = b := by simpa [bk] using e
  subst hb
  obtain ⟨D, ⟨es, clock, hbk, _⟩, _⟩ := hM
  have h0 : 0 < xs.length := by rw [h.1]; exact hn
  have := hc 0 _ (List.getElem?_eq_getElem h0)
  unfold World.cell? at this
  rw [hbk] at this
  simp at this

/-- The cells of the one at place i. -/
theorem Rd.told8 {w : World} {B c n : Nat} {A : Option Addr} {l : List Tl} (h : Rd w B A c 8 n (tls l)) {i : Nat} (hi : i < n) : ∃ b o t, A = some ⟨b, o, none⟩ ∧ b < B ∧ l[i]? = some t ∧ t ∈ l ∧
    w.cell? ⟨b, o + i * 8, none⟩ = some (.int .i64 t.1) ∧ w.cell? ⟨b, o + i * 8 + 1, none⟩ = some (.int .i64 t.2.fr) ∧ w.cell? ⟨b, o + i * 8 + 2, none⟩ = some (.int .i64 t.2.boot) ∧ w.cell? ⟨b, o + i * 8 + 3, none⟩ = some (.int .i64 t.2.seq) ∧
    w.cell? ⟨b, o + i * 8 + 4, none⟩ = some (.int .i64 t.2.ord) ∧ w.cell? ⟨b, o + i * 8 + 5, none⟩ = some (.int .i64 t.2.lev) ∧ w.cell? ⟨b, o + i * 8 + 6, none⟩ = some (.int .i64 t.2.stamp) ∧ w.cell? ⟨b, o + i * 8 + 7, none⟩ = some (.string t.2.data) := by
  obtain ⟨b, o, t, hA, hb, he, hm, hr⟩ := h.told hi
  exact ⟨b, o, t, hA, hb, he, hm, hr 0 _ rfl, hr 1 _ rfl, hr 2 _ rfl, hr 3 _ rfl, hr 4 _ rfl, hr 5 _ rfl, hr 6 _ rfl, hr 7 _ rfl⟩

set_option maxRecDepth 100000 in
theorem broadcastJ_c (w : World) (e : Ent) : Calls Try.prog 22 #[ev e] w fun x w' => x = .returned (ev (bo e)) ∧ Below w.heap.size w w' := by
  have b0 := (Below.refl w.heap.size w).alloc (Nat.le_refl _) (.cells #[.int .i64 e.fr, .int .i64 e.boot, .int .i64 e.seq, .int .i64 e.ord, .int .i64 e.lev, .int .i64 e.stamp, .string e.data] 30)
  have b1 := b0.alloc (by simp) (.cells #[.int .i64 0, .int .i64 0, .int .i64 0, .int .i64 0, .int .i64 0, .int .i64 0, .string ByteArray.empty] 30)
  have K := Blk.new (w.alloc (.cells #[.int .i64 e.fr, .int .i64 e.boot, .int .i64 e.seq, .int .i64 e.ord, .int .i64 e.lev, .int .i64 e.stamp, .string e.data] 30)) #[.int .i64 0, .int .i64 0, .int .i64 0, .int .i64 0, .int .i64 0, .int .i64 0, .string ByteArray.empty] 30
  rw [show (w.alloc (.cells #[.int .i64 e.fr, .int .i64 e.boot, .int .i64 e.seq, .int .i64 e.ord, .int .i64 e.lev, .int .i64 e.stamp, .string e.data] 30)).heap.size = w.heap.size + 1 by simp] at K
  have b2 := Lib.hid (b1.trans (grown_below (grown_row _ (w.heap.size + 1) #[.int .i64 e.fr, .int .i64 e.boot, .int .i64 e.seq, .int .i64 0, .int .i64 0, .int .i64 0, .string ByteArray.empty]) (by omega) b1.size))
  have K2 := Lib.hid (K.row #[.int .i64 e.fr, .int .i64 e.boot, .int .i64 e.seq, .int .i64 0, .int .i64 0, .int .i64 0, .string ByteArray.empty])
  have K1 := Lib.hid K
  clear b0 b1 K
  show Calls _ _ #[.agg #[.int .i64 e.fr, .int .i64 e.boot, .int .i64 e.seq, .int .i64 e.ord, .int .i64 e.lev, .int .i64 e.stamp, .string e.data]] _ _
  go_enter Try.func22, Try.ntmps22
  go_wp2_with ((with_reducible show wpList _ _ _ ((⟨none, Op.store 30 (.tmp 2) _, _, _, _, _⟩ : Oper) :: _) _ _); go_must (refine wpList_store_row rfl 30 (.tmp 2) _ rfl (w.heap.size + 1) _ rfl rfl _ _ K1.out (by kernel_rfl) (by rfl) (by kernel_rfl) ?_))
  refine bodyPost_ret (v := ev (bo e)) (results_cell_row rfl _ _ (w.heap.size + 1) _ _ _ _ rfl K2.out Try.underlying30 rfl (by kernel_rfl)) rfl ⟨rfl, b2.out⟩

set_option maxRecDepth 100000 in
theorem unstamped_c (w : World) (e : Ent) : Calls Try.prog 23 #[ev e] w fun x w' => x = .returned (ev (un e)) ∧ Below w.heap.size w w' := by
  have b0 := (Below.refl w.heap.size w).alloc (Nat.le_refl _) (.cells #[.int .i64 e.fr, .int .i64 e.boot, .int .i64 e.seq, .int .i64 e.ord, .int .i64 e.lev, .int .i64 0, .string e.data] 30)
  have b1 := b0.alloc (by simp) (.cells #[.int .i64 0, .int .i64 0, .int .i64 0, .int .i64 0, .int .i64 0, .int .i64 0, .string ByteArray.empty] 30)
  have K := Blk.new (w.alloc (.cells #[.int .i64 e.fr, .int .i64 e.boot, .int .i64 e.seq, .int .i64 e.ord, .int .i64 e.lev, .int .i64 0, .string e.data] 30)) #[.int .i64 0, .int .i64 0, .int .i64 0, .int .i64 0, .int .i64 0, .int .i64 0, .string ByteArray.empty] 30
  rw [show (w.alloc (.cells #[.int .i64 e.fr, .int .i64 e.boot, .int .i64 e.seq, .int .i64 e.ord, .int .i64 e.lev, .int .i64 0, .string e.data] 30)).heap.size = w.heap.size + 1 by simp] at K
  have b3 := Lib.hid (b1.trans (grown_below (grown_row _ (w.heap.size + 1) #[.int .i64 e.fr, .int .i64 e.boot, .int .i64 e.seq, .int .i64 e.ord, .int .i64 e.lev, .int .i64 0, .string e.data]) (by omega) b1.size))
  have K1 := Lib.hid K
  have K2 := Lib.hid (K.row #[.int .i64 e.fr, .int .i64 e.boot, .int .i64 e.seq, .int .i64 e.ord, .int .i64 e.lev, .int .i64 0, .string e.data])
  clear b0 b1 K
  show Calls _ _ #[.agg #[.int .i64 e.fr, .int .i64 e.boot, .int .i64 e.seq, .int .i64 e.ord, .int .i64 e.lev, .int .i64 e.stamp, .string e.data]] _ _
  go_enter Try.func23, Try.ntmps23
  go_wp2_with ((with_reducible show wpList _ _ _ ((⟨none, Op.store 30 (.tmp 2) _, _, _, _, _⟩ : Oper) :: _) _ _); go_must (refine wpList_store_row rfl 30 (.tmp 2) _ rfl (w.heap.size + 1) _ rfl rfl _ _ K1.out (by kernel_rfl) (by rfl) (by kernel_rfl) ?_))
  refine bodyPost_ret (v := ev (un e)) (results_cell_row rfl _ _ (w.heap.size + 1) _ _ _ _ rfl K2.out Try.underlying30 rfl (by kernel_rfl)) rfl ⟨rfl, b3.out⟩
end Go.Proofs.Ytkpgijmpaklfgaa
