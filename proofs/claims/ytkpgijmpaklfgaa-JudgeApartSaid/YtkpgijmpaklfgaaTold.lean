/- What was told as cells: in slices, in a block, loaded and built. -/
import Derived.Test.YtkpgijmpaklfgaaPlainReady
import Derived.Test.YtkpgijmpaklfgaaEntN
namespace Go.Proofs.Ytkpgijmpaklfgaa
open Go.RowKit PReady

def tcs (t : Tl) : List Value := .int .i64 t.1 :: ecs t.2
def tldv (t : Tl) : Value := .agg #[.int .i64 t.1, .int .i64 t.2.fr, .int .i64 t.2.boot, .int .i64 t.2.seq, .int .i64 t.2.ord, .int .i64 t.2.lev, .int .i64 t.2.stamp, .string t.2.data]
def tls : List Tl → List Value
  | [] => []
  | t :: r => tcs t ++ tls r
theorem tcs_length (t : Tl) : (tcs t).length = 8 := rfl
theorem tls_length (l : List Tl) : (tls l).length = l.length * 8 := by
  induction l with
  | nil => rfl
  | cons e r ih => simp only [tls, List.length_append, tcs_length, ih, List.length_cons]; omega
theorem tls_append (a b : List Tl) : tls (a ++ b) = tls a ++ tls b := by
  induction a with
  | nil => rfl
  | cons x r ih => simp [tls, ih]
theorem tcs_one (t : Tl) : ∀ u ∈ tcs t, u.oneCell' = true := by
  intro u h
  rcases List.mem_cons.1 h with rfl | h
  · rfl
  · exact ecs_one t.2 u h
theorem tls_one (l : List Tl) : ∀ u ∈ tls l, u.oneCell' = true := by
  induction l with
  | nil => intro u h; simp [tls] at h
  | cons e r ih =>
    intro u h
    rcases List.mem_append.1 h with h | h
    · exact tcs_one e u h
    · exact ih u h
theorem tls_drop (l : List Tl) : ∀ i, (tls l).drop (i * 8) = tls (l.drop i) := by
  induction l with
  | nil => intro i; simp [tls]
  | cons e r ih =>
    intro i
    cases i with
    | zero => simp
    | succ i =>
      have h := ih i
      show (tcs e ++ tls r).drop ((i + 1) * 8) = tls (r.drop i)
      rw [← h, show (i + 1) * 8 = (tcs e).length + i * 8 by rw [tcs_length]; omega, ← List.drop_drop, List.drop_left]
theorem tls_take (l : List Tl) : ∀ i, (tls l).take (i * 8) = tls (l.take i) := by
  induction l with
  | nil => intro i; simp [tls]
  | cons e r ih =>
    intro i
    cases i with
    | zero => simp [tls]
    | succ i =>
      have h := ih i
      show (tcs e ++ tls r).take ((i + 1) * 8) = tcs e ++ tls (r.take i)
      rw [← h, show (i + 1) * 8 = (tcs e).length + i * 8 by rw [tcs_length]; omega, List.take_add, List.take_left, List.drop_left]
theorem tls_at {l : List Tl} {i : Nat} {t : Tl} (h : l[i]? = some t) {j : Nat} (hj : j < 8) : (tls l)[i * 8 + j]? = (tcs t)[j]? := by
  obtain ⟨hi, he⟩ := List.getElem?_eq_some_iff.1 h
  have h1 := tls_drop l i
  have h2 : l.drop i = t :: l.drop (i + 1) := by rw [List.drop_eq_getElem_cons hi, he]
  rw [h2] at h1
  have h3 := congrArg (fun q => q[j]?) h1
  simp only [List.getElem?_drop] at h3
  rw [h3]
  show (tcs t ++ tls (l.drop (i + 1)))[j]? = _
  rw [List.getElem?_append_left (by rw [tcs_length]; omega)]
theorem told_info : (Try.prog.info? 32).map (fun i => (i.zero, i.size, i.bytes)) = some (some (tldv (0, zeroE)), 8, 72) := by kernel_rfl

section
variable {w w' : World} {B c n : Nat} {A : Option Addr} {l : List Tl}
theorem Rd.tlen (h : Rd w B A c 8 n (tls l)) : l.length = n := by have := h.len; rw [tls_length] at this; omega
/-- The cells of the one at place i. -/
theorem Rd.told (h : Rd w B A c 8 n (tls l)) {i : Nat} (hi : i < n) : ∃ b o t, A = some ⟨b, o, none⟩ ∧ b < B ∧ l[i]? = some t ∧ t ∈ l ∧ w.rangeAt b (o + i * 8) (tcs t) := by
  obtain ⟨b, o, hA, hb, hc⟩ := h.flat hi (by omega)
  have hl := h.tlen
  have he : l[i]? = some l[i] := List.getElem?_eq_getElem (by omega)
  refine ⟨b, o, l[i], hA, hb, he, List.getElem_mem _, fun j v hv => ?_⟩
  have hj : j < 8 := by have := (List.getElem?_eq_some_iff.1 hv).1; rw [tcs_length] at this; exact this
  obtain ⟨u, hu, hcell⟩ := hc j hj
  rw [tls_at he hj, hv] at hu
  rw [hcell, ← hu]
theorem range_at {b o : Nat} {t : Tl} (h : w.rangeAt b o (tcs t)) : w.cell? ⟨b, o, none⟩ = some (.int .i64 t.1) := by have := h 0 _ rfl; simpa using this
theorem range_ent {b o : Nat} {t : Tl} (h : w.rangeAt b o (tcs t)) : w.rangeAt b (o + 1) (ecs t.2) := by
  intro j v hv
  have := h (j + 1) v (by simpa [tcs] using hv)
  rw [show o + 1 + j = o + (j + 1) by omega]; exact this
theorem Blk.newTold (w : World) (T : TypeId) (t : Tl) : Blk (w.alloc (.cells #[.int .i64 t.1, .int .i64 t.2.fr, .int .i64 t.2.boot, .int .i64 t.2.seq, .int .i64 t.2.ord, .int .i64 t.2.lev, .int .i64 t.2.stamp, .string t.2.data] T)) w.heap.size T (tcs t) := Blk.new w _ T
end
/-- A slice of what was told is loaded out of its cell. -/
theorem run_loadS {w : World} {dst : Option Tmp} {x : Operand} {ty : TypeId} {pos : String} {after : Array Edge} {guard : Option (Nat × Bool)} {ρ : Operand → Value} {p : Addr} {A : Option Addr} {n c : Nat}
    (h : w.cell? p = some (.slice A n c)) (hx : ρ x = .pointer (some p)) : (execOp ρ { dst, op := .load 22 x, type := ty, pos, after, guard }).run Try.prog w = .ok (.value (.slice A n c)) w := by
  go_simp
/-- An int is loaded. -/
theorem run_loadInt {w : World} {dst : Option Tmp} {x : Operand} {ty : TypeId} {pos : String} {after : Array Edge} {guard : Option (Nat × Bool)} {ρ : Operand → Value} {p : Addr} {k : Int}
    (h : w.cell? p = some (.int .i64 k)) (hx : ρ x = .pointer (some p)) : (execOp ρ { dst, op := .load 3 x, type := ty, pos, after, guard }).run Try.prog w = .ok (.value (.int .i64 k)) w := by
  go_simp
/-- One that was told is loaded in a region that draws. -/
theorem run_loadT {w : World} {dst : Option Tmp} {x : Operand} {ty : TypeId} {pos : String} {after : Array Edge} {guard : Option (Nat × Bool)} {ρ : Operand → Value} {b o : Nat} {t : Tl}
    (h : w.rangeAt b o (tcs t)) (hx : ρ x = .pointer (some ⟨b, o, none⟩)) : (execOp ρ { dst, op := .load 32 x, type := ty, pos, after, guard }).run Try.prog w = .ok (.value (tldv t)) w := by
  have := run_loadAt_mid (P := Try.prog) w b o 32 (tcs t) _ h Try.underlying32 rfl (by kernel_rfl)
  unfold execOp
  simp only [hx, Sem.run_bind, this, Result.andThen_ok, Sem.run_pure]
  rfl
/-- '[]api.Told{t}' in a region that draws. -/
theorem wpList_buildT {w : World} {ops : Array Oper} {rest : List Oper} {o : Oper} {a : Act} {Q : Exit → Act → World → Prop} (hgd : o.guard = none) (x : Operand) (ho : o.op = .buildSlice 22 1 #[(0, x)]) (t : Tl) (hx : a.eval x = tldv t)
    (h : wpList Try.prog ops Q rest (a.put o.dst (.slice (some ⟨w.heap.size, 0, none⟩) 1 1)) (w.alloc (.cells (tcs t).toArray 32))) : wpList Try.prog ops Q (o :: rest) a w := by
  obtain ⟨i, hi0, hz, hk, -⟩ := info_parts told_info
  refine wpList_buildSlice hgd 22 32 1 _ ho (tcs t).toArray i (tldv (0, zeroE)) Try.underlying22 hi0 hz (by rw [hk]; omega) (by rw [hk]; omega) ?_ h
  rw [hk]
  have hb : (Array.range (1 * 8)).map (fun x => (tldv (0, zeroE)).cells[x % (tldv (0, zeroE)).cells.size]!) = (tcs (0, zeroE)).toArray := by kernel_rfl
  rw [hb]
  simp [Instr.fill, tldv, tcs, ecs, Value.cells, hx]
end Go.Proofs.Ytkpgijmpaklfgaa
