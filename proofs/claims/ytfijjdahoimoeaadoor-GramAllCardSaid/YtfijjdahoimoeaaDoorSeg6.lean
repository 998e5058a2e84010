/- A message loaded, rows of int64s compared, in a region that draws. -/
import Derived.Test.YtfijjdahoimoeaaDoorSeg5
import Derived.Test.YtfijjdahoimoeaaDoorSeg2
import Derived.Laws.StructEq
import Derived.Great.BuildSlice
import Derived.Test.YtfijjdahoimoeaaDoorRows
import Derived.Test.YtfijjdahoimoeaaDoorSeg1
namespace Go.Proofs.YtfijjdahoimoeaaDoor
open Go.RowKit

/-- A message is loaded, in a region that draws. -/
theorem run_loadM {w : World} {dst : Option Tmp} {x : Operand} {ty : TypeId} {pos : String} {after : Array Edge} {guard : Option (Nat × Bool)} {ρ : Operand → Value} {g : Nat} {t : TypeId} {m : Msg} {A : Option Addr} {c : Nat}
    (K : Blk w g t (mcs m A c)) (hx : ρ x = .pointer (some ⟨g, 0, none⟩)) :
    (execOp ρ { dst, op := .load 30 x, type := ty, pos, after, guard }).run Tryd.prog w = .ok (.value (mv m A c)) w := by
  have := run_loadAt_mid (P := Tryd.prog) w g 0 30 (mcs m A c) _ K.range Tryd.underlying30 rfl (by kernel_rfl)
  unfold execOp
  simp only [hx, Sem.run_bind, this, Result.andThen_ok, Sem.run_pure]
  rfl

section
variable {P : Program} (w : World)
theorem range_eq : ∀ (xs ys : List Int), xs.length = ys.length → ((List.range xs.length).all fun i => xs.getD i 0 == ys.getD i 0) = decide (xs = ys)
  | [], [], _ => rfl
  | [], _ :: _, h => by simp at h
  | _ :: _, [], h => by simp at h
  | x :: xs, y :: ys, h => by
    have h1 := range_eq xs ys (by simpa using h)
    rw [List.length_cons, List.range_succ_eq_map, List.all_cons, List.all_map]
    simp only [List.getD_cons_zero, Function.comp_def, List.getD_cons_succ, h1]
    rw [Bool.eq_iff_iff]; simp
/-- Two arrays of int64s are the same, number by number. -/
theorem run_equalIn_nums (d : Nat) (t e : TypeId) (n : Nat) (ht : P.underlying t = some (.array n e)) (he : P.underlying e = some (.int .i64)) (hs : ∀ w, (sizeOf e).run P w = .ok 1 w) (xs ys : List Int) (hx : xs.length = n) (hy : ys.length = n) :
    (Op.equalIn (d + 2) t (nv13 xs) (nv13 ys)).run P w = .ok (decide (xs = ys)) w := by
  rw [← range_eq xs ys (hx.trans hy.symm), hx, List.range_eq_range', nv13, nv13, Op.equalIn]
  simp only [Sem.run_bind, run_underlying ht, Result.andThen_ok, hs, Std.Legacy.Range.forIn_eq_forIn_range', Std.Legacy.Range.size, Nat.sub_zero, Nat.add_sub_cancel, Nat.div_one]
  have hl : ∀ i ∈ List.range' 0 n 1, i < n := fun i hi => by simpa using (List.mem_range'_1.1 hi).2
  generalize List.range' 0 n 1 = l at hl ⊢
  induction l with
  | nil => simp
  | cons i l ih =>
    have hi : i < n := hl i (by simp)
    have px : (part e (xs.map (Value.int .i64)).toArray (i * 1)).run P w = .ok (.int .i64 (xs.getD i 0)) w := by
      simp [part, isAgg, run_underlying he, List.getD, List.getElem?_eq_getElem (show i < xs.length by omega)]
    have py : (part e (ys.map (Value.int .i64)).toArray (i * 1)).run P w = .ok (.int .i64 (ys.getD i 0)) w := by
      simp [part, isAgg, run_underlying he, List.getD, List.getElem?_eq_getElem (show i < ys.length by omega)]
    simp only [List.forIn_cons, Sem.run_bind, px, py, run_equalIn_int w d e .i64 .i64 _ _ he, Result.andThen_ok, List.all_cons]
    cases hb : (xs.getD i 0 == ys.getD i 0)
    · simp
    · simp only [Bool.not_true, Bool.false_eq_true, if_false, Sem.run_pure, Result.andThen_ok, Bool.true_and]
      exact ih fun j hj => hl j (by simp [hj])
end

theorem run_loadN {w : World} {dst : Option Tmp} {x : Operand} {ty : TypeId} {pos : String} {after : Array Edge} {guard : Option (Nat × Bool)} {ρ : Operand → Value} {g : Nat} {t : TypeId} {y0 y1 y2 y3 y4 y5 y6 y7 y8 y9 y10 y11 y12 : Int}
    (K : Blk w g t [.int .i64 y0, .int .i64 y1, .int .i64 y2, .int .i64 y3, .int .i64 y4, .int .i64 y5, .int .i64 y6, .int .i64 y7, .int .i64 y8, .int .i64 y9, .int .i64 y10, .int .i64 y11, .int .i64 y12]) (hx : ρ x = .pointer (some ⟨g, 0, none⟩)) :
    (execOp ρ { dst, op := .load 80 x, type := ty, pos, after, guard }).run Tryd.prog w = .ok (.value (nv13 [y0, y1, y2, y3, y4, y5, y6, y7, y8, y9, y10, y11, y12])) w := by
  have := run_loadAt_mid (P := Tryd.prog) w g 0 80 [.int .i64 y0, .int .i64 y1, .int .i64 y2, .int .i64 y3, .int .i64 y4, .int .i64 y5, .int .i64 y6, .int .i64 y7, .int .i64 y8, .int .i64 y9, .int .i64 y10, .int .i64 y11, .int .i64 y12] _ K.range Tryd.underlying80 rfl (by kernel_rfl)
  unfold execOp
  simp only [hx, Sem.run_bind, this, Result.andThen_ok, Sem.run_pure]
  rfl

theorem run_numsEq {w : World} {dst : Option Tmp} {x y : Operand} {ty : TypeId} {pos : String} {after : Array Edge} {guard : Option (Nat × Bool)} {ρ : Operand → Value} {xs ys : List Int} {b : Bool} (hx : ρ x = nv13 xs) (hy : ρ y = nv13 ys) (lx : xs.length = 13) (ly : ys.length = 13) (hb : decide (xs = ys) = b) :
    (execOp ρ { dst, op := .binOp .eql 80 x y 80, type := ty, pos, after, guard }).run Tryd.prog w = .ok (.value (.bool b)) w := by
  have h1 := run_equalIn_nums (P := Tryd.prog) w 9998 80 2 13 Tryd.underlying80 Tryd.underlying2 (fun w => by kernel_rfl) xs ys lx ly
  have h0 : Tryd.prog.eqGuardType Tryd.prog.depth 80 = false := by kernel_rfl
  unfold execOp
  simp only [hx, hy]
  unfold nv13 at *
  simp only [Sem.run_bind, run_eqGuard_agg (P := Tryd.prog) w .eql 80 x y _ _ h0, Result.andThen_ok, run_eql_struct, h1, hb, Sem.run_pure]
theorem run_numsNe {w : World} {dst : Option Tmp} {x y : Operand} {ty : TypeId} {pos : String} {after : Array Edge} {guard : Option (Nat × Bool)} {ρ : Operand → Value} {xs ys : List Int} {b : Bool} (hx : ρ x = nv13 xs) (hy : ρ y = nv13 ys) (lx : xs.length = 13) (ly : ys.length = 13) (hb : (!decide (xs = ys)) = b) :
    (execOp ρ { dst, op := .binOp .neq 80 x y 80, type := ty, pos, after, guard }).run Tryd.prog w = .ok (.value (.bool b)) w := by
  have h1 := run_equalIn_nums (P := Tryd.prog) w 9998 80 2 13 Tryd.underlying80 Tryd.underlying2 (fun w => by kernel_rfl) xs ys lx ly
  have h0 : Tryd.prog.eqGuardType Tryd.prog.depth 80 = false := by kernel_rfl
  unfold execOp
  simp only [hx, hy]
  unfold nv13 at *
  simp only [Sem.run_bind, run_eqGuard_agg (P := Tryd.prog) w .neq 80 x y _ _ h0, Result.andThen_ok, run_neq_struct, h1, hb, Sem.run_pure]
end Go.Proofs.YtfijjdahoimoeaaDoor

/- Contract of Decode. -/
namespace Go.Proofs.YtfijjdahoimoeaaDoor
open Go.RowKit

def slLen : Value → Nat
  | .slice _ n _ => n
  | _ => 0
def dErr : Option (List Ent) → Int
  | some _ => 0
  | none => 1

/-- The loop's invariant: es were read of the first p bytes. -/
def DI (l : List Int) (es : List Ent) (p : Nat) : Prop := ∃ f, (l.drop p).length ≤ f ∧ PEnt.dec l = (PEnt.rdL f (l.drop p)).map (es ++ ·)
theorem DI.start (l : List Int) : DI l [] 0 := ⟨l.length, by simp, by simp [PEnt.dec]⟩
theorem DI.bad {l : List Int} {es : List Ent} {p : Nat} (h : DI l es p) (hp : 0 < (l.drop p).length) (he : PEnt.rdE (l.drop p) = none) : PEnt.dec l = none := by
  obtain ⟨f, hf, hd⟩ := h
  rw [hd]
  generalize l.drop p = m at *
  match f, m, hp with
  | 0, [], hp => simp at hp
  | 0, c :: r, _ => simp at hf
  | f + 1, [], hp => simp at hp
  | f + 1, c :: r, _ => simp [PEnt.rdL, he]
theorem DI.next {l : List Int} {es : List Ent} {p k : Nat} {e : Ent} (h : DI l es p) (hk : 0 < k) (hl : k ≤ (l.drop p).length) (he : PEnt.rdE (l.drop p) = some (e, k)) : DI l (es ++ [e]) (p + k) := by
  obtain ⟨f, hf, hd⟩ := h
  have e1 : l.drop (p + k) = (l.drop p).drop k := by rw [List.drop_drop]
  match f, hf, hd with
  | 0, hf, _ => omega
  | f + 1, hf, hd =>
    refine ⟨f, by rw [e1, List.length_drop]; omega, ?_⟩
    rw [hd, e1]
    generalize l.drop p = m at *
    match m, hl with
    | [], hl => simp at hl; omega
    | c :: r, _ =>
      simp only [PEnt.rdL, he]
      cases PEnt.rdL f ((c :: r).drop k) <;> simp
theorem DI.done {l : List Int} {es : List Ent} {p : Nat} (h : DI l es p) (hp : l.drop p = []) : PEnt.dec l = some es := by
  obtain ⟨f, _, hd⟩ := h
  rw [hd, hp]
  cases f <;> simp [PEnt.rdL]

set_option maxHeartbeats 4000000 in
set_option maxRecDepth 100000 in
theorem Decode_c (w : World) (B : Nat) (A : Option Addr) (c n : Nat) (l : List Int) (h : Rd w B A c 1 n (bs l)) (hb : isB l) (hn : n ≤ 1000000) :
    Calls Tryd.prog 37 #[.slice A n c] w fun x w' => ∃ A' c', x = .returned (.tuple #[.slice A' ((PEnt.dec l).getD []).length c', .int .i64 (dErr (PEnt.dec l))]) ∧
      w'.ownsRow w.heap.size 70 7 (.slice A' ((PEnt.dec l).getD []).length c') ((PEnt.dec l).getD []).length (els ((PEnt.dec l).getD [])) ∧ Below w.heap.size w w' := by
  have R0 := Lib.hid h.tight
  have HLn := Lib.hid h.blen
  have HB := Lib.hid hb
  clear h hb
  go_enter Tryd.func37, Tryd.ntmps37
  go_wp2_with fail
  go_loopw [0, 4, 5, 6, 7] (fun s0 s4 _ _ _ wr => ∃ (p m cb c' : Nat) (Ab A' : Option Addr) (es : List Ent), p ≤ n ∧ m ≤ p ∧ s0 = .slice Ab (n - p) cb ∧ s4 = .slice A' m c' ∧ Hid (Rd wr w.heap.size Ab cb 1 (n - p) (bs (l.drop p))) ∧
      Hid (wr.ownsRow w.heap.size 70 7 (.slice A' m c') m (els es)) ∧ Hid (DI l es p) ∧ Hid (Below w.heap.size w wr))
    (fun s0 _ _ _ _ _ => slLen s0)
  case atStart => exact ⟨0, 0, c, 0, A, none, [], by omega, by omega, rfl, rfl, R0, Lib.hid (World.ownsRow_nil _ _ _ _), Lib.hid (DI.start l), Lib.hid (Below.refl _ _)⟩
  case round =>
    clear R0
    obtain ⟨p, m, cb, c1, Ab, A1, es, hp, hm, rfl, rfl, R, O, HI, BL⟩ := hrel
    have HLd := Lib.hid (show (l.drop p).length = n - p by rw [List.length_drop, HLn.out])
    by_cases hlt : 0 < n - p
    · go_wp2_with fail
      refine (decodeOne_c wr _ Ab cb (n - p) (l.drop p) R.out (HB.out.drop p) (by omega)).mono ?_
      cases hr : PEnt.rdE (l.drop p) with
      | none =>
        have HD := Lib.hid (HI.out.bad (by rw [HLd.out]; exact hlt) hr)
        clear hr
        simp only [dtup, ev, zeroE]
        rintro x w1 ⟨rfl, b1⟩
        have B1 := Lib.hid (BL.out.trans (b1.mono BL.out.size))
        have B2 := Lib.hid (B1.out.alloc B1.out.size (.cells #[.int .i64 0, .int .i64 0, .int .i64 0, .int .i64 0, .int .i64 0, .int .i64 0, .string ⟨#[]⟩] 70))
        clear b1 BL O R
        go_wp2_with fail
        go_ret2
        refine ⟨none, 0, ?_, ?_, B2.out⟩
        · rw [HD.out]; rfl
        · rw [HD.out]; exact World.ownsRow_nil _ _ _ _
      | some q =>
        obtain ⟨e, k⟩ := q
        obtain ⟨he1, he2, he3, -⟩ := PEnt.rdE_inv (HB.out.drop p) hr
        rw [HLd.out] at he3
        have HI2 := Lib.hid (HI.out.next he2 (by rw [HLd.out]; exact he3) hr)
        clear hr he1
        simp only [dtup, ev]
        rintro x w1 ⟨rfl, b1⟩
        have B1 := Lib.hid (BL.out.trans (b1.mono BL.out.size))
        have O1 := Lib.hid (own_below O.out b1)
        have R1 := Lib.hid (R.out.past b1)
        clear b1 BL O R HI
        have O2 := own_below O1.out ((Below.refl _ _).alloc (Nat.le_refl _) (.cells #[.int .i64 e.fr, .int .i64 e.boot, .int .i64 e.seq, .int .i64 e.ord, .int .i64 e.lev, .int .i64 e.stamp, .string e.data] 70))
        have B2 := Lib.hid (B1.out.alloc B1.out.size (.cells #[.int .i64 e.fr, .int .i64 e.boot, .int .i64 e.seq, .int .i64 e.ord, .int .i64 e.lev, .int .i64 e.stamp, .string e.data] 70))
        have R2 := Lib.hid (R1.out.alloc (.cells #[.int .i64 e.fr, .int .i64 e.boot, .int .i64 e.seq, .int .i64 e.ord, .int .i64 e.lev, .int .i64 e.stamp, .string e.data] 70))
        have HO2 := Lib.hid O2
        clear O2 B1 R1 O1
        go_wp2_with (at_builtin; go_must (refine wpList_pushes rfl (.tmp 19) (.tmp 21) _ rfl w.heap.size 70 (ev zeroE) 7 64 1 Tryd.underlying28 ent_info rfl (by omega) rfl (by unfold maxLen; omega) A1 c1 m (els es) rfl HO2.out (by show Value.slice (some ⟨w1.heap.size + 1, 0, none⟩) 1 1 = _; simp) ?h1 ?h2 ?h3 ?h4 ?_))
        case h1 => exact ⟨rfl, rfl, rfl, rfl, rfl, rfl, rfl⟩
        case h2 => unfold maxLen; omega
        case h3 => omega
        case h4 => exact B2.out.size
        intro A2 c2 w2 hown2 hg2 hb2
        have B3 := Lib.hid (B2.out.trans hb2)
        have R3 := Lib.hid (R2.out.below hb2)
        have O3 := Lib.hid (show w2.ownsRow w.heap.size 70 7 (.slice A2 (m + 1) c2) (m + 1) (els (es ++ [e])) by rw [els_append]; exact hown2)
        clear hown2 hg2 hb2 B2 R2 HO2
        go_wp2_with (with_reducible show wpList _ _ _ ((⟨some 25, Op.slice 31 _ _ _ _, _, _, _, _⟩ : Oper) :: _) _ _
                     go_must (refine wpList_cut rfl 31 (.tmp 23) _ _ rfl 5 _ 1 1 Tryd.underlying31 byte_info _ Ab cb (n - p) (bs (l.drop p)) rfl R3.out k (n - p) (.inr rfl) (.inl ⟨rfl, rfl⟩) he3 (Nat.le_refl _) ?_))
        intro A4 c4 hr4
        rw [bs_tail HLd.out, List.drop_drop] at hr4
        have R4 := Lib.hid hr4
        clear hr4 R3
        go_wp2_with fail
        go_roundw
        case rel => exact ⟨p + k, m + 1, c4, c2, A4, A2, es ++ [e], by omega, by omega, by rw [Nat.sub_sub], rfl, Lib.hid (by rw [← Nat.sub_sub]; exact R4.out), O3, HI2, B3⟩
        case measure => simp [slLen]; omega
    · have hp0 : l.drop p = [] := List.eq_nil_of_length_eq_zero (by rw [HLd.out]; omega)
      have HD := Lib.hid (HI.out.done hp0)
      have hl := O.out.1
      rw [els_length] at hl
      have HM := Lib.hid (show es.length = m by omega)
      clear hl hp0
      go_wp2_with fail
      go_ret2
      refine ⟨A1, c1, ?_, ?_, BL.out⟩
      · rw [HD.out]; show _ = Ending.returned (.tuple #[.slice A1 es.length c1, .int .i64 0]); rw [HM.out]; rfl
      · rw [HD.out]; show wr.ownsRow _ _ _ (.slice A1 es.length c1) es.length (els es); rw [HM.out]; exact O.out
end Go.Proofs.YtfijjdahoimoeaaDoor

/- An entry loaded, built in a region that draws; small facts of lists. -/
namespace Go.Proofs.YtfijjdahoimoeaaDoor
open Go.RowKit

theorem Rd.entR {w : World} {B c n : Nat} {A : Option Addr} {l : List Ent} (h : Rd w B A c 7 n (els l)) {i : Nat} (hi : i < n) : ∃ b o e, A = some ⟨b, o, none⟩ ∧ b < B ∧ l[i]? = some e ∧ e ∈ l ∧ w.rangeAt b (o + i * 7) (ecs e) := by
  obtain ⟨b, o, hA, hb, hc⟩ := h.flat hi (by omega)
  have hl := h.elen
  have he : l[i]? = some l[i] := List.getElem?_eq_getElem (by omega)
  refine ⟨b, o, l[i], hA, hb, he, List.getElem_mem _, fun j v hv => ?_⟩
  have hj : j < 7 := by have := (List.getElem?_eq_some_iff.1 hv).1; rw [ecs_length] at this; exact this
  obtain ⟨u, hu, hcell⟩ := hc j hj
  rw [els_at he hj, hv] at hu
  rw [hcell, hu]
theorem eqL_step {l m : List Ent} {i : Nat} {a b : Ent} (h1 : l[i]? = some a) (h2 : m[i]? = some b) : PEnt.eqL (l.drop i) (m.drop i) = (PEnt.eqE a b && PEnt.eqL (l.drop (i + 1)) (m.drop (i + 1))) := by
  obtain ⟨hi, he⟩ := List.getElem?_eq_some_iff.1 h1
  obtain ⟨hj, hf⟩ := List.getElem?_eq_some_iff.1 h2
  rw [List.drop_eq_getElem_cons hi, List.drop_eq_getElem_cons hj, he, hf]; rfl
theorem eqL_ne : ∀ {l m : List Ent}, l.length ≠ m.length → PEnt.eqL l m = false
  | [], [], h => absurd rfl h
  | [], _ :: _, _ => rfl
  | _ :: _, [], _ => rfl
  | a :: l, b :: m, h => by
    have : l.length ≠ m.length := fun e => h (by simp [e])
    simp [PEnt.eqL, eqL_ne this]

theorem any_take {l : List Ent} {p : Ent → Bool} {i : Nat} {e : Ent} (he : l[i]? = some e) (h : (l.take i).any p = false) (hp : p e = false) : (l.take (i + 1)).any p = false := by
  obtain ⟨hi, rfl⟩ := List.getElem?_eq_some_iff.1 he
  rw [← List.take_append_getElem hi, List.any_append, h]
  simp [hp]
theorem any_at {l : List Ent} {p : Ent → Bool} {i : Nat} {e : Ent} (he : l[i]? = some e) (hp : p e = true) : l.any p = true := by
  rw [List.any_eq_true]
  exact ⟨e, List.mem_of_getElem? he, hp⟩
theorem results_rowB {P : Program} {fn : Func} {p u : Tmp} {ty : TypeId} (h : fn.results = #[.cell p ty, .tmp u]) (tmps : Array Value) (w : World) (g : Nat) (t : TypeId) (cs : Array Value) (fr : Nat × Nat) (d : TypeDesc)
    {v : Value} (hp : tmps.getD p undef = .pointer (some ⟨g, 0, none⟩)) (hv : tmps.getD u undef = v) (hg : w.heap[g]? = some (.cells cs t fr))
    (hu : P.underlying ty = some d) (hd : (match d with | .struct _ | .array _ _ => true | _ => false) = true) (hi : (P.info? ty).map (·.size) = some cs.size) :
    (results fn tmps).run P w = .ok (.tuple #[.agg cs, v]) w := by
  rw [results_cell_tmp h, hp, hv]
  simp [asAddr, run_loadVar_row w g t ty cs fr d hg hu hd hi, Result.andThen]

theorem ecs_one (e : Ent) : ∀ u ∈ ecs e, u.oneCell' = true := by
  have := els_one [e]
  simpa [els] using this
theorem grown0 {w w' : World} {row : Option Nat} (h : w.grownBy w' row) : Below 0 w w' := ⟨h.os, h.tape, h.output, h.size, fun k hk => absurd hk (Nat.not_lt_zero k)⟩
/-- A slice is loaded out of its cell. -/
theorem run_load1 {w : World} {dst : Option Tmp} {x : Operand} {ty : TypeId} {pos : String} {after : Array Edge} {guard : Option (Nat × Bool)} {ρ : Operand → Value} {p : Addr} {A : Option Addr} {n c : Nat}
    (h : w.cell? p = some (.slice A n c)) (hx : ρ x = .pointer (some p)) : (execOp ρ { dst, op := .load 28 x, type := ty, pos, after, guard }).run Tryd.prog w = .ok (.value (.slice A n c)) w := by
  go_simp
/-- '[]api.Entry{e}' in a region that draws. -/
theorem wpList_buildE {w : World} {ops : Array Oper} {rest : List Oper} {o : Oper} {a : Act} {Q : Exit → Act → World → Prop} (hgd : o.guard = none) (x : Operand) (ho : o.op = .buildSlice 28 1 #[(0, x)]) (e : Ent) (hx : a.eval x = ev e)
    (h : wpList Tryd.prog ops Q rest (a.put o.dst (.slice (some ⟨w.heap.size, 0, none⟩) 1 1)) (w.alloc (.cells (ecs e).toArray 70))) : wpList Tryd.prog ops Q (o :: rest) a w := by
  obtain ⟨i, hi0, hz, hk, -⟩ := info_parts ent_info
  refine wpList_buildSlice hgd 28 70 1 _ ho (ecs e).toArray i (ev zeroE) Tryd.underlying28 hi0 hz (by rw [hk]; omega) (by rw [hk]; omega) ?_ h
  rw [hk]
  have hb : (Array.range (1 * 7)).map (fun x => (ev zeroE).cells[x % (ev zeroE).cells.size]!) = (ecs zeroE).toArray := by kernel_rfl
  rw [hb]
  simp [Instr.fill, ev, ecs, Value.cells, hx]

theorem take_step {es : List Ent} {i : Nat} {e : Ent} (he : es[i]? = some e) : es.take (i + 1) = es.take i ++ [e] := by
  obtain ⟨hi, rfl⟩ := List.getElem?_eq_some_iff.1 he
  exact (List.take_append_getElem hi).symm
theorem drop_step {es : List Ent} {i : Nat} {e : Ent} (he : es[i]? = some e) : es.drop i = e :: es.drop (i + 1) := by
  obtain ⟨hi, rfl⟩ := List.getElem?_eq_some_iff.1 he
  exact List.drop_eq_getElem_cons hi
theorem take_min (es : List Ent) (a : Nat) : es.take (min a es.length) = es.take a := by
  by_cases h : a ≤ es.length
  · rw [Nat.min_eq_left h]
  · rw [Nat.min_eq_right (by omega), List.take_of_length_le (Nat.le_refl _), List.take_of_length_le (by omega)]
theorem drop_min (es : List Ent) (a : Nat) : es.drop (min a es.length) = es.drop a := by
  by_cases h : a ≤ es.length
  · rw [Nat.min_eq_left h]
  · rw [Nat.min_eq_right (by omega), List.drop_of_length_le (Nat.le_refl _), List.drop_of_length_le (by omega)]

theorem run_loadI {w : World} {dst : Option Tmp} {x : Operand} {ty : TypeId} {pos : String} {after : Array Edge} {guard : Option (Nat × Bool)} {ρ : Operand → Value} {p : Addr} {k : Int}
    (h : w.cell? p = some (.int .i64 k)) (hx : ρ x = .pointer (some p)) : (execOp ρ { dst, op := .load 2 x, type := ty, pos, after, guard }).run Tryd.prog w = .ok (.value (.int .i64 k)) w := by
  go_simp
theorem Rd.rangeOf {w : World} {B c n b o i : Nat} {A : Option Addr} {l : List Ent} {y : Ent} (h : Rd w B A c 7 n (els l)) (hA : A = some ⟨b, o, none⟩) (hy : l[i]? = some y) : w.rangeAt b (o + i * 7) (ecs y) := by
  have hi : i < n := by have := h.elen; have := (List.getElem?_eq_some_iff.1 hy).1; omega
  obtain ⟨b', o', e, rfl, -, he, -, hr⟩ := h.entR hi
  cases hA
  obtain rfl : y = e := by have := hy.symm.trans he; exact Option.some.inj this
  exact hr
theorem range_stamp {w : World} {b o : Nat} {y : Ent} (h : w.rangeAt b o (ecs y)) : w.cell? ⟨b, o + 5, none⟩ = some (.int .i64 y.stamp) := h 5 _ rfl

theorem Rd.below2 {w w' : World} {B c k n : Nat} {A : Option Addr} {xs : List Value} (h : Rd w B A c k n xs) (hb : Below w.heap.size w w') : Rd w' w'.heap.size A c k n xs := (h.past hb).tight


section
variable {w w' : World} {S : List Nat}
theorem run_short {P : Program} {w : World} (t e : TypeId) {z : Option Value} {k bytes : Nat} (ht : P.underlying t = some (.slice e)) (hi : (P.info? e).map (fun i => (i.zero, i.size, i.bytes)) = some (z, k, bytes))
    (A : Option Addr) (n c m : Nat) (hm : m ≤ c) : (Instr.sliceAt t (.slice A n c) none (some (.int .i64 m)) none).run P w = .ok (.slice A m c) w := by
  rw [run_cut t e ht hi A n c none (some (.int .i64 m)) .i64 .i64 0 m (Or.inl ⟨rfl, rfl⟩) (Or.inr rfl) (Nat.zero_le _) hm]
  have h0 : (if c = 0 then A else A.map (·.add (0 * k))) = A := by
    split
    · rfl
    · cases A <;> simp [Addr.add]
  rw [h0]; rfl
/-- A slice that reads, behind a call that wrote other blocks. -/
theorem Rd.touch {B c k n : Nat} {A : Option Addr} {xs : List Value} (h : Rd w B A c k n xs) (ht : Touch S w w') (hs : 0 < n * k → ∀ s ∈ S, bk A ≠ some s) : Rd w' B A c k n xs :=
  ⟨h.1, h.2.1, h.2.2.1, h.2.2.2.1, fun hn => by
    obtain ⟨b, o, e, hB, hc⟩ := h.2.2.2.2 hn
    refine ⟨b, o, e, hB, fun j u hu => ?_⟩
    have hlt : b < w.heap.size := World.block_lt_of_cell? w _ (hc j u hu)
    have hb := ht.block b hlt (fun hm => hs hn b hm (by rw [e]; rfl))
    have := hc j u hu
    unfold World.cell? at this ⊢
    simp only [hb]
    exact this⟩
/-- What lies below B is apart from blocks that do not. -/
theorem Rd.apart {B c k n : Nat} {A : Option Addr} {xs : List Value} (h : Rd w B A c k n xs) (hS : ∀ s ∈ S, B ≤ s) : 0 < n * k → ∀ s ∈ S, bk A ≠ some s := by
  intro hn s hs e
  obtain ⟨b, o, hA, hb, _⟩ := h.2.2.2.2 hn
  rw [hA] at e
  have : b = s := by simpa [bk] using e
  have := hS s hs
  omega
end
end Go.Proofs.YtfijjdahoimoeaaDoor

/- Contract of Decode of messages. -/
namespace Go.Proofs.YtfijjdahoimoeaaDoor
open Go.RowKit

def mErr : Option Msg → Int
  | some _ => 0
  | none => 1
/-- A message with entries of its own, or a zero one; was there one. -/
def DecPost (w : World) (r : Option Msg) (x : Ending) (w' : World) : Prop :=
  ∃ (A' : Option Addr) (c' : Nat), x = .returned (.tuple #[mv (r.getD zeroM) A' c', .int .i64 (mErr r)]) ∧ w'.ownsRow w.heap.size 70 7 (.slice A' (r.getD zeroM).es.length c') (r.getD zeroM).es.length (els (r.getD zeroM).es) ∧ Below w.heap.size w w'

set_option maxHeartbeats 8000000 in
set_option maxRecDepth 100000 in
theorem wDecode_c (w : World) (B : Nat) (A : Option Addr) (c n : Nat) (l : List Int) (h : Rd w B A c 1 n (bs l)) (hb : isB l) (ht : Tab w) (hn : n ≤ 1000000) :
    Calls Tryd.prog 22 #[.slice A n c] w (DecPost w (PMsg.dec l)) := by
  have R0 := Lib.hid h
  have HB := Lib.hid hb
  have HT := Lib.hid ht
  have HLn := Lib.hid h.blen
  clear h hb ht
  go_enter Tryd.func22, Tryd.ntmps22
  go_wp2_with fail
  have b1 := (Below.refl w.heap.size w).alloc (Nat.le_refl _) (.cells #[.int .i64 0, .int .i64 0, .int .i64 0, .int .i64 0, .int .i64 0, .int .i64 0, .int .i64 0, .int .i64 0, .slice none 0 0, .int .i64 0, .int .i64 0, .int .i64 0, .bool false] 30)
  have K0 := Blk.new w #[.int .i64 0, .int .i64 0, .int .i64 0, .int .i64 0, .int .i64 0, .int .i64 0, .int .i64 0, .int .i64 0, .slice none 0 0, .int .i64 0, .int .i64 0, .int .i64 0, .bool false] 30
  generalize w.alloc (.cells #[.int .i64 0, .int .i64 0, .int .i64 0, .int .i64 0, .int .i64 0, .int .i64 0, .int .i64 0, .int .i64 0, .slice none 0 0, .int .i64 0, .int .i64 0, .int .i64 0, .bool false] 30) = w1 at *
  have KZ1 := Lib.hid (show Blk w1 w.heap.size 30 (mcs zeroM none 0) from K0)
  refine (Open_c w1 _ A c n l (R0.out.past b1) HB.out (HT.out.past b1) (by omega)).mono ?_
  have BL1 := Lib.hid b1
  clear b1 K0
  cases ho : openP l with
  | mk s ok =>
  rintro x w2 ⟨A1, c1, rfl, hr1, b2⟩
  have BL2 := Lib.hid (BL1.out.trans (b2.mono BL1.out.size))
  have KZ2 := Lib.hid (KZ1.out.past b2)
  have RS := Lib.hid hr1
  clear b2 hr1 KZ1 BL1
  cases ok
  · have HD := Lib.hid (show PMsg.dec l = none by unfold PMsg.dec; rw [ho]; rfl)
    clear ho
    go_wp2_with ((with_reducible show wpList _ _ _ ((⟨none, Op.store 30 (.tmp 2) _, _, _, _, _⟩ : Oper) :: _) _ _); go_must (refine wpList_store_row rfl 30 (.tmp 2) (.tmp 18) rfl w.heap.size _ rfl rfl _ _ KZ2.out (by kernel_rfl) (by rfl) (by kernel_rfl) ?_))
    have K2 := KZ2.out.row #[.int .i64 0, .int .i64 0, .int .i64 0, .int .i64 0, .int .i64 0, .int .i64 0, .int .i64 0, .int .i64 0, .slice none 0 0, .int .i64 0, .int .i64 0, .int .i64 0, .bool false]
    have B2 := grown_below (grown_row w2 w.heap.size #[.int .i64 0, .int .i64 0, .int .i64 0, .int .i64 0, .int .i64 0, .int .i64 0, .int .i64 0, .int .i64 0, .slice none 0 0, .int .i64 0, .int .i64 0, .int .i64 0, .bool false]) (Nat.le_refl _) BL2.out.size
    refine bodyPost_ret (v := .tuple #[mv zeroM none 0, .int .i64 1]) (results_rowB rfl _ _ w.heap.size _ _ _ _ rfl rfl K2 Tryd.underlying30 rfl (by kernel_rfl)) rfl ?_
    rw [HD.out]
    exact ⟨none, 0, rfl, World.ownsRow_nil _ _ _ _, BL2.out.trans B2⟩
  · have hy := PMsg.openP_yes HB.out (by rw [ho])
    rw [ho] at hy
    have HSB := Lib.hid hy.2
    have hsl : s.length ≤ 1000000 := by
      have := congrArg List.length hy.1
      rw [sealed_length, HLn.out] at this
      dsimp only at this
      omega
    have HSL := Lib.hid hsl
    have HDD := Lib.hid (show PMsg.dec l = PMsg.rd s by unfold PMsg.dec; rw [ho]; rfl)
    clear ho hy
    simp only
    go_wp2_with fail
    refine (getNumbers_c w2 _ A1 c1 s.length s RS.out HSB.out hsl).mono ?_
    cases hr : PEnt.rdN 13 s with
    | none =>
      have HD := Lib.hid (HDD.out.trans (show PMsg.rd s = none by unfold PMsg.rd; rw [hr]))
      clear hr
      have hz : gtup none = .tuple #[.agg #[.int .i64 0, .int .i64 0, .int .i64 0, .int .i64 0, .int .i64 0, .int .i64 0, .int .i64 0, .int .i64 0, .int .i64 0, .int .i64 0, .int .i64 0, .int .i64 0, .int .i64 0], .int .i64 0, .bool false] := rfl
      rw [hz]
      clear hz
      rintro x w3 ⟨rfl, b3⟩
      have b4 := (Below.refl w3.heap.size w3).alloc (Nat.le_refl _) (.cells #[.int .i64 0, .int .i64 0, .int .i64 0, .int .i64 0, .int .i64 0, .int .i64 0, .int .i64 0, .int .i64 0, .int .i64 0, .int .i64 0, .int .i64 0, .int .i64 0, .int .i64 0] 80)
      have BL3 := Lib.hid ((BL2.out.trans (b3.mono BL2.out.size)).trans (b4.mono (Nat.le_trans BL2.out.size b3.size)))
      have KZ3 := Lib.hid ((KZ2.out.past b3).past b4)
      clear b3 b4
      go_wp2_with ((with_reducible show wpList _ _ _ ((⟨none, Op.store 30 (.tmp 2) _, _, _, _, _⟩ : Oper) :: _) _ _); go_must (refine wpList_store_row rfl 30 (.tmp 2) (.tmp 27) rfl w.heap.size _ rfl rfl _ _ KZ3.out (by kernel_rfl) (by rfl) (by kernel_rfl) ?_))
      have K2 := KZ3.out.row #[.int .i64 0, .int .i64 0, .int .i64 0, .int .i64 0, .int .i64 0, .int .i64 0, .int .i64 0, .int .i64 0, .slice none 0 0, .int .i64 0, .int .i64 0, .int .i64 0, .bool false]
      have B2 := grown_below (grown_row (w3.alloc (.cells #[.int .i64 0, .int .i64 0, .int .i64 0, .int .i64 0, .int .i64 0, .int .i64 0, .int .i64 0, .int .i64 0, .int .i64 0, .int .i64 0, .int .i64 0, .int .i64 0, .int .i64 0] 80)) w.heap.size #[.int .i64 0, .int .i64 0, .int .i64 0, .int .i64 0, .int .i64 0, .int .i64 0, .int .i64 0, .int .i64 0, .slice none 0 0, .int .i64 0, .int .i64 0, .int .i64 0, .bool false]) (Nat.le_refl _) BL3.out.size
      refine bodyPost_ret (v := .tuple #[mv zeroM none 0, .int .i64 1]) (results_rowB rfl _ _ w.heap.size _ _ _ _ rfl rfl K2 Tryd.underlying30 rfl (by kernel_rfl)) rfl ?_
      rw [HD.out]
      exact ⟨none, 0, rfl, World.ownsRow_nil _ _ _ _, BL3.out.trans B2⟩
    | some q =>
      obtain ⟨xs, p⟩ := q
      obtain ⟨i1, i2, -, i4⟩ := PEnt.rdN_inv 13 s xs p HSB.out hr
      have HRD := Lib.hid (show PMsg.rd s = match PEnt.dec (s.drop p) with
        | some es => if PMsg.may (PMsg.ofN xs es) = true ∧ PMsg.ns (PMsg.ofN xs es) = xs then some (PMsg.ofN xs es) else none
        | none => none by
          simp only [PMsg.rd, hr]
          cases PEnt.dec (s.drop p) <;> rfl)
      clear hr
      obtain ⟨x0, x1, x2, x3, x4, x5, x6, x7, x8, x9, x10, x11, x12, rfl⟩ := list13 i1
      have HX6 := Lib.hid (i4 x6 (by simp))
      clear i1 i4
      have hz : gtup (some ([x0, x1, x2, x3, x4, x5, x6, x7, x8, x9, x10, x11, x12], p)) = .tuple #[.agg #[.int .i64 x0, .int .i64 x1, .int .i64 x2, .int .i64 x3, .int .i64 x4, .int .i64 x5, .int .i64 x6, .int .i64 x7, .int .i64 x8, .int .i64 x9, .int .i64 x10, .int .i64 x11, .int .i64 x12], .int .i64 p, .bool true] := rfl
      rw [hz]
      clear hz
      rintro x w3 ⟨rfl, b3⟩
      have b4 := (Below.refl w3.heap.size w3).alloc (Nat.le_refl _) (.cells #[.int .i64 x0, .int .i64 x1, .int .i64 x2, .int .i64 x3, .int .i64 x4, .int .i64 x5, .int .i64 x6, .int .i64 x7, .int .i64 x8, .int .i64 x9, .int .i64 x10, .int .i64 x11, .int .i64 x12] 80)
      have BL4 := Lib.hid ((BL2.out.trans (b3.mono BL2.out.size)).trans (b4.mono (Nat.le_trans BL2.out.size b3.size)))
      have KZ4 := Lib.hid ((KZ2.out.past b3).past b4)
      have RS4 := Lib.hid ((RS.out.past b3).past b4)
      have KN4 := Lib.hid (Blk.new w3 #[.int .i64 x0, .int .i64 x1, .int .i64 x2, .int .i64 x3, .int .i64 x4, .int .i64 x5, .int .i64 x6, .int .i64 x7, .int .i64 x8, .int .i64 x9, .int .i64 x10, .int .i64 x11, .int .i64 x12] 80)
      clear b3 b4 KZ2 RS BL2
      go_wp2_with (with_reducible show wpList _ _ _ ((⟨some 31, Op.slice 31 _ _ _ _, _, _, _, _⟩ : Oper) :: _) _ _
                   go_must (refine wpList_cut rfl 31 (.tmp 29) _ _ rfl 5 _ 1 1 Tryd.underlying31 byte_info _ A1 c1 s.length (bs s) rfl RS4.out p s.length (.inr rfl) (.inl ⟨rfl, rfl⟩) i2 (by omega) ?_))
      intro A2 c2 hr2
      rw [bs_tail rfl] at hr2
      have HR2 := Lib.hid hr2
      clear hr2
      generalize w3.alloc (.cells #[.int .i64 x0, .int .i64 x1, .int .i64 x2, .int .i64 x3, .int .i64 x4, .int .i64 x5, .int .i64 x6, .int .i64 x7, .int .i64 x8, .int .i64 x9, .int .i64 x10, .int .i64 x11, .int .i64 x12] 80) = w4 at *
      generalize hg3 : w3.heap.size = g3 at *
      have HG3 := Lib.hid hg3
      clear hg3
      go_wp2_with fail
      refine (Decode_c w4 _ A2 c2 (s.length - p) (s.drop p) HR2.out (HSB.out.drop p) (by omega)).mono ?_
      cases hd : PEnt.dec (s.drop p) with
      | none =>
        have HD := Lib.hid (HDD.out.trans (HRD.out.trans (by rw [hd])))
        clear hd HRD
        simp only [Option.getD_none, List.length_nil, dErr]
        rintro x w5 ⟨A3, c3, rfl, -, b5⟩
        have BL5 := Lib.hid (BL4.out.trans (b5.mono BL4.out.size))
        have KZ5 := Lib.hid (KZ4.out.past b5)
        clear b5
        go_wp2_with ((with_reducible show wpList _ _ _ ((⟨none, Op.store 30 (.tmp 2) _, _, _, _, _⟩ : Oper) :: _) _ _); go_must (refine wpList_store_row rfl 30 (.tmp 2) (.tmp 37) rfl w.heap.size _ rfl rfl _ _ KZ5.out (by kernel_rfl) (by rfl) (by kernel_rfl) ?_))
        have K2 := KZ5.out.row #[.int .i64 0, .int .i64 0, .int .i64 0, .int .i64 0, .int .i64 0, .int .i64 0, .int .i64 0, .int .i64 0, .slice none 0 0, .int .i64 0, .int .i64 0, .int .i64 0, .bool false]
        have B2 := grown_below (grown_row w5 w.heap.size #[.int .i64 0, .int .i64 0, .int .i64 0, .int .i64 0, .int .i64 0, .int .i64 0, .int .i64 0, .int .i64 0, .slice none 0 0, .int .i64 0, .int .i64 0, .int .i64 0, .bool false]) (Nat.le_refl _) BL5.out.size
        refine bodyPost_ret (v := .tuple #[mv zeroM none 0, .int .i64 1]) (results_rowB rfl _ _ w.heap.size _ _ _ _ rfl rfl K2 Tryd.underlying30 rfl (by kernel_rfl)) rfl ?_
        rw [HD.out]
        exact ⟨none, 0, rfl, World.ownsRow_nil _ _ _ _, BL5.out.trans B2⟩
      | some es =>
        have HRR := Lib.hid (HDD.out.trans (HRD.out.trans (by rw [hd])) : PMsg.dec l = if PMsg.may (PMsg.ofN [x0, x1, x2, x3, x4, x5, x6, x7, x8, x9, x10, x11, x12] es) = true ∧ PMsg.ns (PMsg.ofN [x0, x1, x2, x3, x4, x5, x6, x7, x8, x9, x10, x11, x12] es) = [x0, x1, x2, x3, x4, x5, x6, x7, x8, x9, x10, x11, x12] then some (PMsg.ofN [x0, x1, x2, x3, x4, x5, x6, x7, x8, x9, x10, x11, x12] es) else none)
        clear hd HRD
        simp only [Option.getD_some, dErr]
        rintro x w5 ⟨A3, c3, rfl, hown, b5⟩
        have BL5 := Lib.hid (BL4.out.trans (b5.mono BL4.out.size))
        have KZ5 := Lib.hid (KZ4.out.past b5)
        have KN5 := Lib.hid (KN4.out.past b5)
        have RE5 := Lib.hid (Rd.of_own hown)
        have OW5 := Lib.hid (own_base hown BL4.out.size)
        clear b5 hown KZ4 KN4 BL4
        go_wp2_with ((with_reducible show wpList _ _ _ ((⟨some 38, Op.load _ _, _, _, _, _⟩ : Oper) :: _) _ _); go_must (refine wpList_load_row rfl 80 (.tmp 6) rfl g3 rfl 80 #[.int .i64 x0, .int .i64 x1, .int .i64 x2, .int .i64 x3, .int .i64 x4, .int .i64 x5, .int .i64 x6, .int .i64 x7, .int .i64 x8, .int .i64 x9, .int .i64 x10, .int .i64 x11, .int .i64 x12] (0, 0) _ KN5.out Tryd.underlying80 rfl (by kernel_rfl) ?_))
        refine (show Calls Tryd.prog 38 #[.agg #[.int .i64 x0, .int .i64 x1, .int .i64 x2, .int .i64 x3, .int .i64 x4, .int .i64 x5, .int .i64 x6, .int .i64 x7, .int .i64 x8, .int .i64 x9, .int .i64 x10, .int .i64 x11, .int .i64 x12], .slice A3 es.length c3] w5 (fun x w' => x = .returned (.agg #[.int .i64 x0, .int .i64 x1, .int .i64 x2, .int .i64 x3, .int .i64 x4, .int .i64 x5, .int .i64 x6, .int .i64 x7, .slice A3 es.length c3, .int .i64 x8, .int .i64 x9, .int .i64 x10, .bool (x11 == 1)]) ∧ Below w5.heap.size w5 w') from wOf_c w5 x0 x1 x2 x3 x4 x5 x6 x7 x8 x9 x10 x11 x12 es A3 c3).mono ?_
        rintro x w6 ⟨rfl, b6⟩
        have b7 := (Below.refl w6.heap.size w6).alloc (Nat.le_refl _) (.cells #[.int .i64 x0, .int .i64 x1, .int .i64 x2, .int .i64 x3, .int .i64 x4, .int .i64 x5, .int .i64 x6, .int .i64 x7, .slice A3 es.length c3, .int .i64 x8, .int .i64 x9, .int .i64 x10, .bool (x11 == 1)] 30)
        have BL7 := Lib.hid ((BL5.out.trans (b6.mono BL5.out.size)).trans (b7.mono (Nat.le_trans BL5.out.size b6.size)))
        have KZ7 := Lib.hid ((KZ5.out.past b6).past b7)
        have KN7 := Lib.hid ((KN5.out.past b6).past b7)
        have RE7 := Lib.hid (((RE5.out.past b6).past b7).tight)
        have OW7 := Lib.hid (own_touch OW5.out (S := []) (Touch.of_below (b6.trans (b7.mono b6.size))) (by simp))
        have KM7 := Lib.hid (show Blk (w6.alloc (.cells #[.int .i64 x0, .int .i64 x1, .int .i64 x2, .int .i64 x3, .int .i64 x4, .int .i64 x5, .int .i64 x6, .int .i64 x7, .slice A3 es.length c3, .int .i64 x8, .int .i64 x9, .int .i64 x10, .bool (x11 == 1)] 30)) w6.heap.size 30 (mcs (PMsg.ofN [x0, x1, x2, x3, x4, x5, x6, x7, x8, x9, x10, x11, x12] es) A3 c3) from Blk.new w6 #[.int .i64 x0, .int .i64 x1, .int .i64 x2, .int .i64 x3, .int .i64 x4, .int .i64 x5, .int .i64 x6, .int .i64 x7, .slice A3 es.length c3, .int .i64 x8, .int .i64 x9, .int .i64 x10, .bool (x11 == 1)] 30)
        clear b6 b7 KZ5 KN5 RE5 BL5
        go_wp2_with fail
        generalize w6.alloc (.cells #[.int .i64 x0, .int .i64 x1, .int .i64 x2, .int .i64 x3, .int .i64 x4, .int .i64 x5, .int .i64 x6, .int .i64 x7, .slice A3 es.length c3, .int .i64 x8, .int .i64 x9, .int .i64 x10, .bool (x11 == 1)] 30) = w7 at *
        generalize hg6 : w6.heap.size = g6 at *
        have HG6 := Lib.hid hg6
        clear hg6
        have HLM := Lib.hid (PMsg.ns_length (PMsg.ofN [x0, x1, x2, x3, x4, x5, x6, x7, x8, x9, x10, x11, x12] es))
        cases hm : PMsg.may (PMsg.ofN [x0, x1, x2, x3, x4, x5, x6, x7, x8, x9, x10, x11, x12] es)
        · have HD := Lib.hid (HRR.out.trans (if_neg (fun h => by rw [hm] at h; cases h.1)))
          have HM := Lib.hid hm
          clear hm
-- REGION curfew/wire.Decode 11 wdec11a 10
          refine Hb.begin ?_
          refine Hb.take (v := mv (PMsg.ofN [x0, x1, x2, x3, x4, x5, x6, x7, x8, x9, x10, x11, x12] es) A3 c3) 0 41 rfl ?_ (fun w' hw' => by exact run_loadM (KM7.out.drew.past hw') rfl)
          refine Hb.call (f := 39) (args := #[mv (PMsg.ofN [x0, x1, x2, x3, x4, x5, x6, x7, x8, x9, x10, x11, x12] es) A3 c3]) 1 42 rfl ?_ (run_callf Tryd.func39 (by kernel_rfl) (by kernel_rfl) (by simp only [List.map_toArray, List.map_cons, List.map_nil]; rfl))
          refine (wMay_c w7.drew (PMsg.ofN [x0, x1, x2, x3, x4, x5, x6, x7, x8, x9, x10, x11, x12] es) A3 c3 RE7.out HX6.out).mono ?_
          rw [HM.out]
          rintro x w8 ⟨rfl, b8⟩
          have B8 := Lib.hid (show Below w7.heap.size w7 w8 from (Below.refl _ _).drew.trans b8)
          refine Hb.back b8 b8.size ?_
          refine Hb.take (v := .bool true) 2 43 rfl ?_ (fun w' hw' => by go_simp; first | done | rfl | omega | exact wrap_in (by omega) (by omega) | exact Int.tmod_eq_emod_of_nonneg (by omega) | exact Int.tdiv_eq_ediv_of_nonneg (by omega) | (simp; omega))
          refine Hb.take (v := .bool true) 3 44 rfl ?_ (fun _ _ => rfl)
          refine Hb.pass 4 45 rfl ?_
          refine Hb.pass 5 46 rfl ?_
          refine Hb.pass 6 47 rfl ?_
          refine Hb.pass 7 48 rfl ?_
          refine Hb.take (v := Value.bool true) 8 49 rfl ?_ (fun _ _ => rfl)
          refine Hb.done ?_
-- END
          have BL9 := Lib.hid (BL7.out.trans (B8.out.mono BL7.out.size))
          have KZ9 := Lib.hid (KZ7.out.past B8.out)
          go_wp2_with ((with_reducible show wpList _ _ _ ((⟨none, Op.store 30 (.tmp 2) _, _, _, _, _⟩ : Oper) :: _) _ _); go_must (refine wpList_store_row rfl 30 (.tmp 2) (.tmp 50) rfl w.heap.size _ rfl rfl _ _ KZ9.out (by kernel_rfl) (by rfl) (by kernel_rfl) ?_))
          have K2 := KZ9.out.row #[.int .i64 0, .int .i64 0, .int .i64 0, .int .i64 0, .int .i64 0, .int .i64 0, .int .i64 0, .int .i64 0, .slice none 0 0, .int .i64 0, .int .i64 0, .int .i64 0, .bool false]
          have B2 := grown_below (grown_row w8 w.heap.size #[.int .i64 0, .int .i64 0, .int .i64 0, .int .i64 0, .int .i64 0, .int .i64 0, .int .i64 0, .int .i64 0, .slice none 0 0, .int .i64 0, .int .i64 0, .int .i64 0, .bool false]) (Nat.le_refl _) BL9.out.size
          refine bodyPost_ret (v := .tuple #[mv zeroM none 0, .int .i64 1]) (results_rowB rfl _ _ w.heap.size _ _ _ _ rfl rfl K2 Tryd.underlying30 rfl (by kernel_rfl)) rfl ?_
          rw [HD.out]
          exact ⟨none, 0, rfl, World.ownsRow_nil _ _ _ _, BL9.out.trans B2⟩
        · have HM := Lib.hid hm
          cases hq : decide (PMsg.ns (PMsg.ofN [x0, x1, x2, x3, x4, x5, x6, x7, x8, x9, x10, x11, x12] es) = [x0, x1, x2, x3, x4, x5, x6, x7, x8, x9, x10, x11, x12])
          · have HD := Lib.hid (HRR.out.trans (if_neg (fun h => of_decide_eq_false hq h.2)))
            have HQ := Lib.hid (show (!decide (PMsg.ns (PMsg.ofN [x0, x1, x2, x3, x4, x5, x6, x7, x8, x9, x10, x11, x12] es) = [x0, x1, x2, x3, x4, x5, x6, x7, x8, x9, x10, x11, x12])) = true by rw [hq]; rfl)
            clear hm hq
-- REGION curfew/wire.Decode 11 wdec11b 12
            refine Hb.begin ?_
            refine Hb.take (v := mv (PMsg.ofN [x0, x1, x2, x3, x4, x5, x6, x7, x8, x9, x10, x11, x12] es) A3 c3) 0 41 rfl ?_ (fun w' hw' => by exact run_loadM (KM7.out.drew.past hw') rfl)
            refine Hb.call (f := 39) (args := #[mv (PMsg.ofN [x0, x1, x2, x3, x4, x5, x6, x7, x8, x9, x10, x11, x12] es) A3 c3]) 1 42 rfl ?_ (run_callf Tryd.func39 (by kernel_rfl) (by kernel_rfl) (by simp only [List.map_toArray, List.map_cons, List.map_nil]; rfl))
            refine (wMay_c w7.drew (PMsg.ofN [x0, x1, x2, x3, x4, x5, x6, x7, x8, x9, x10, x11, x12] es) A3 c3 RE7.out HX6.out).mono ?_
            rw [HM.out]
            rintro x w8 ⟨rfl, b8⟩
            have B8 := Lib.hid (show Below w7.heap.size w7 w8 from (Below.refl _ _).drew.trans b8)
            refine Hb.back b8 b8.size ?_
            refine Hb.take (v := .bool false) 2 43 rfl ?_ (fun w' hw' => by go_simp; first | done | rfl | omega | exact wrap_in (by omega) (by omega) | exact Int.tmod_eq_emod_of_nonneg (by omega) | exact Int.tdiv_eq_ediv_of_nonneg (by omega) | (simp; omega))
            refine Hb.take (v := .bool false) 3 44 rfl ?_ (fun _ _ => rfl)
            refine Hb.take (v := mv (PMsg.ofN [x0, x1, x2, x3, x4, x5, x6, x7, x8, x9, x10, x11, x12] es) A3 c3) 4 45 rfl ?_ (fun w' hw' => by exact run_loadM ((KM7.out.past B8.out).past hw') rfl)
            refine Hb.take (v := nv13 [x0, x1, x2, x3, x4, x5, x6, x7, x8, x9, x10, x11, x12]) 6 47 rfl ?_ (fun w' hw' => by exact run_loadN ((KN7.out.past B8.out).past hw') rfl)
            refine Hb.call (f := 40) (args := #[mv (PMsg.ofN [x0, x1, x2, x3, x4, x5, x6, x7, x8, x9, x10, x11, x12] es) A3 c3]) 5 46 rfl ?_ (run_callf Tryd.func40 (by kernel_rfl) (by kernel_rfl) (by simp only [List.map_toArray, List.map_cons, List.map_nil]; rfl))
            refine (wNums_c w8 (PMsg.ofN [x0, x1, x2, x3, x4, x5, x6, x7, x8, x9, x10, x11, x12] es) A3 c3).mono ?_
            rintro x w9 ⟨rfl, b9⟩
            have B9 := Lib.hid (B8.out.trans (b9.mono B8.out.size))
            refine Hb.back b9 b9.size ?_
            refine Hb.take (v := .bool true) 7 48 rfl ?_ (fun w' hw' => by exact run_numsNe rfl rfl HLM.out rfl HQ.out)
            refine Hb.take (v := .bool true) 8 49 rfl ?_ (fun _ _ => rfl)
            refine Hb.done ?_
-- END
            have BL9 := Lib.hid (BL7.out.trans (B9.out.mono BL7.out.size))
            have KZ9 := Lib.hid (KZ7.out.past B9.out)
            go_wp2_with ((with_reducible show wpList _ _ _ ((⟨none, Op.store 30 (.tmp 2) _, _, _, _, _⟩ : Oper) :: _) _ _); go_must (refine wpList_store_row rfl 30 (.tmp 2) (.tmp 50) rfl w.heap.size _ rfl rfl _ _ KZ9.out (by kernel_rfl) (by rfl) (by kernel_rfl) ?_))
            have K2 := KZ9.out.row #[.int .i64 0, .int .i64 0, .int .i64 0, .int .i64 0, .int .i64 0, .int .i64 0, .int .i64 0, .int .i64 0, .slice none 0 0, .int .i64 0, .int .i64 0, .int .i64 0, .bool false]
            have B2 := grown_below (grown_row w9 w.heap.size #[.int .i64 0, .int .i64 0, .int .i64 0, .int .i64 0, .int .i64 0, .int .i64 0, .int .i64 0, .int .i64 0, .slice none 0 0, .int .i64 0, .int .i64 0, .int .i64 0, .bool false]) (Nat.le_refl _) BL9.out.size
            refine bodyPost_ret (v := .tuple #[mv zeroM none 0, .int .i64 1]) (results_rowB rfl _ _ w.heap.size _ _ _ _ rfl rfl K2 Tryd.underlying30 rfl (by kernel_rfl)) rfl ?_
            rw [HD.out]
            exact ⟨none, 0, rfl, World.ownsRow_nil _ _ _ _, BL9.out.trans B2⟩
          · have HD := Lib.hid (HRR.out.trans (if_pos ⟨hm, of_decide_eq_true hq⟩))
            have HQ := Lib.hid (show (!decide (PMsg.ns (PMsg.ofN [x0, x1, x2, x3, x4, x5, x6, x7, x8, x9, x10, x11, x12] es) = [x0, x1, x2, x3, x4, x5, x6, x7, x8, x9, x10, x11, x12])) = false by rw [hq]; rfl)
            clear hm hq
-- REGION curfew/wire.Decode 11 wdec11c 12
            refine Hb.begin ?_
            refine Hb.take (v := mv (PMsg.ofN [x0, x1, x2, x3, x4, x5, x6, x7, x8, x9, x10, x11, x12] es) A3 c3) 0 41 rfl ?_ (fun w' hw' => by exact run_loadM (KM7.out.drew.past hw') rfl)
            refine Hb.call (f := 39) (args := #[mv (PMsg.ofN [x0, x1, x2, x3, x4, x5, x6, x7, x8, x9, x10, x11, x12] es) A3 c3]) 1 42 rfl ?_ (run_callf Tryd.func39 (by kernel_rfl) (by kernel_rfl) (by simp only [List.map_toArray, List.map_cons, List.map_nil]; rfl))
            refine (wMay_c w7.drew (PMsg.ofN [x0, x1, x2, x3, x4, x5, x6, x7, x8, x9, x10, x11, x12] es) A3 c3 RE7.out HX6.out).mono ?_
            rw [HM.out]
            rintro x w8 ⟨rfl, b8⟩
            have B8 := Lib.hid (show Below w7.heap.size w7 w8 from (Below.refl _ _).drew.trans b8)
            refine Hb.back b8 b8.size ?_
            refine Hb.take (v := .bool false) 2 43 rfl ?_ (fun w' hw' => by go_simp; first | done | rfl | omega | exact wrap_in (by omega) (by omega) | exact Int.tmod_eq_emod_of_nonneg (by omega) | exact Int.tdiv_eq_ediv_of_nonneg (by omega) | (simp; omega))
            refine Hb.take (v := .bool false) 3 44 rfl ?_ (fun _ _ => rfl)
            refine Hb.take (v := mv (PMsg.ofN [x0, x1, x2, x3, x4, x5, x6, x7, x8, x9, x10, x11, x12] es) A3 c3) 4 45 rfl ?_ (fun w' hw' => by exact run_loadM ((KM7.out.past B8.out).past hw') rfl)
            refine Hb.take (v := nv13 [x0, x1, x2, x3, x4, x5, x6, x7, x8, x9, x10, x11, x12]) 6 47 rfl ?_ (fun w' hw' => by exact run_loadN ((KN7.out.past B8.out).past hw') rfl)
            refine Hb.call (f := 40) (args := #[mv (PMsg.ofN [x0, x1, x2, x3, x4, x5, x6, x7, x8, x9, x10, x11, x12] es) A3 c3]) 5 46 rfl ?_ (run_callf Tryd.func40 (by kernel_rfl) (by kernel_rfl) (by simp only [List.map_toArray, List.map_cons, List.map_nil]; rfl))
            refine (wNums_c w8 (PMsg.ofN [x0, x1, x2, x3, x4, x5, x6, x7, x8, x9, x10, x11, x12] es) A3 c3).mono ?_
            rintro x w9 ⟨rfl, b9⟩
            have B9 := Lib.hid (B8.out.trans (b9.mono B8.out.size))
            refine Hb.back b9 b9.size ?_
            refine Hb.take (v := .bool false) 7 48 rfl ?_ (fun w' hw' => by exact run_numsNe rfl rfl HLM.out rfl HQ.out)
            refine Hb.take (v := .bool false) 8 49 rfl ?_ (fun _ _ => rfl)
            refine Hb.done ?_
-- END
            have BL9 := Lib.hid (BL7.out.trans (B9.out.mono BL7.out.size))
            have KZ9 := Lib.hid (KZ7.out.past B9.out)
            have KM9 := Lib.hid (KM7.out.past B9.out)
            go_wp2_with (first
              | ((with_reducible show wpList _ _ _ ((⟨some 51, Op.load _ _, _, _, _, _⟩ : Oper) :: _) _ _); go_must (refine wpList_load_row rfl 30 (.tmp 10) rfl g6 rfl 30 #[.int .i64 x0, .int .i64 x1, .int .i64 x2, .int .i64 x3, .int .i64 x4, .int .i64 x5, .int .i64 x6, .int .i64 x7, .slice A3 es.length c3, .int .i64 x8, .int .i64 x9, .int .i64 x10, .bool (x11 == 1)] (0, 0) _ KM9.out Tryd.underlying30 rfl (by kernel_rfl) ?_))
              | ((with_reducible show wpList _ _ _ ((⟨none, Op.store 30 (.tmp 2) _, _, _, _, _⟩ : Oper) :: _) _ _); go_must (refine wpList_store_row rfl 30 (.tmp 2) (.tmp 51) rfl w.heap.size _ rfl rfl _ _ KZ9.out (by kernel_rfl) (by rfl) (by kernel_rfl) ?_)))
            have K2 := KZ9.out.row #[.int .i64 x0, .int .i64 x1, .int .i64 x2, .int .i64 x3, .int .i64 x4, .int .i64 x5, .int .i64 x6, .int .i64 x7, .slice A3 es.length c3, .int .i64 x8, .int .i64 x9, .int .i64 x10, .bool (x11 == 1)]
            have b2 := grown_row w9 w.heap.size #[.int .i64 x0, .int .i64 x1, .int .i64 x2, .int .i64 x3, .int .i64 x4, .int .i64 x5, .int .i64 x6, .int .i64 x7, .slice A3 es.length c3, .int .i64 x8, .int .i64 x9, .int .i64 x10, .bool (x11 == 1)]
            have B2 := grown_below b2 (Nat.le_refl _) BL9.out.size
            refine bodyPost_ret (v := .tuple #[mv (PMsg.ofN [x0, x1, x2, x3, x4, x5, x6, x7, x8, x9, x10, x11, x12] es) A3 c3, .int .i64 0]) (results_rowB rfl _ _ w.heap.size _ _ _ _ rfl rfl K2 Tryd.underlying30 rfl (by kernel_rfl)) rfl ?_
            rw [HD.out]
            refine ⟨A3, c3, rfl, ?_, BL9.out.trans B2⟩
            exact own_touch (own_touch OW7.out (S := []) (Touch.of_below B9.out) (by simp)) (Touch.of_grown b2) (fun s hs zs hz => by
              obtain rfl := List.mem_singleton.1 hs
              exact KZ9.out.ne hz (by decide) rfl)
end Go.Proofs.YtfijjdahoimoeaaDoor

/- Contract of the statements' Cut. -/
namespace Go.Proofs.YtfijjdahoimoeaaDoor
open Go.RowKit

theorem Cut_c (w : World) (s : ByteArray) (k : Int) (h0 : 0 ≤ k) :
    Calls Tryd.prog 49 #[.string s, .int .i64 k] w fun e w' => ∃ t : ByteArray, e = .returned (.string t) ∧ w = w' ∧ (t.size : Int) ≤ k ∧ t.size ≤ s.size := by
  obtain ⟨m, rfl⟩ := Int.eq_ofNat_of_zero_le h0
  by_cases hlt : m < s.size
  · go_enter Tryd.func49, Tryd.ntmps49
    go_wp2
    go_ret
    exact ⟨_, rfl, rfl, by simp; omega, by simp; omega⟩
  · go_enter Tryd.func49, Tryd.ntmps49
    go_wp2
    go_ret
    exact ⟨s, rfl, rfl, by omega, by omega⟩

end Go.Proofs.YtfijjdahoimoeaaDoor

/- Contracts of the statements' Cut, Entries. -/
namespace Go.Proofs.YtfijjdahoimoeaaDoor
open Go.RowKit

set_option maxRecDepth 100000 in
theorem lCut_c (w : World) (e : Ent) : Calls Tryd.prog 34 #[ev e] w fun x w' => ∃ t : ByteArray, x = .returned (ev ⟨e.fr, e.boot, e.seq, e.ord, e.lev, e.stamp, t⟩) ∧ t.size ≤ 20 ∧ t.size ≤ e.data.size ∧ Below w.heap.size w w' := by
  obtain ⟨fr, boot, seq, ord, lev, stamp, data⟩ := e
  show Calls _ _ #[.agg #[.int .i64 fr, .int .i64 boot, .int .i64 seq, .int .i64 ord, .int .i64 lev, .int .i64 stamp, .string data]] _ _
  go_enter Tryd.func34, Tryd.ntmps34
  go_wp2_with fail
  refine (Cut_c _ data 20 (by omega)).mono ?_
  rintro x w1 ⟨t, rfl, rfl, ht1, ht2⟩
  go_wp2_with fail
  have K := Blk.newEnt (w.alloc (.cells #[.int .i64 fr, .int .i64 boot, .int .i64 seq, .int .i64 ord, .int .i64 lev, .int .i64 stamp, .string t] 70)) 70 ⟨fr, boot, seq, ord, lev, stamp, t⟩
  rw [show (w.alloc (.cells #[.int .i64 fr, .int .i64 boot, .int .i64 seq, .int .i64 ord, .int .i64 lev, .int .i64 stamp, .string t] 70)).heap.size = w.heap.size + 1 by simp] at K
  refine bodyPost_ret (v := ev ⟨fr, boot, seq, ord, lev, stamp, t⟩) (results_cell_row rfl _ _ (w.heap.size + 1) _ _ _ _ rfl K Tryd.underlying70 rfl (by kernel_rfl)) rfl ⟨t, rfl, by omega, ht2, ((Below.refl _ _).alloc (Nat.le_refl _) _).alloc (by simp) _⟩

/-- What is known of an entry of a law's own: its numbers are int64s, its text is short. -/
structure EntSm (e : Ent) : Prop where
  fit : PEnt.Fit e
  sz : e.data.size ≤ 20

set_option maxHeartbeats 4000000 in
set_option maxRecDepth 100000 in
theorem lEntries_c (w : World) (A : Option Addr) (c n : Nat) (l : List Ent) (k : Int) (h : Rd w w.heap.size A c 7 n (els l)) (hok : ∀ e ∈ l, EntOk e) (h0 : 0 ≤ k) (hk : k ≤ 1000) :
    Calls Tryd.prog 21 #[.slice A n c, .int .i64 k] w fun x w' => ∃ (A' : Option Addr) (c' : Nat) (es : List Ent), x = .returned (.slice A' es.length c') ∧ es.length = min n k.toNat ∧
      w'.ownsRow w.heap.size 70 7 (.slice A' es.length c') es.length (els es) ∧ (∀ e ∈ es, EntSm e) ∧ Below w.heap.size w w' := by
  obtain ⟨m, rfl⟩ := Int.eq_ofNat_of_zero_le h0
  have hcap := h.cap
  have hle := h.le
  have hn : n ≤ 9223372036854775807 := by unfold maxLen at hcap; omega
  have R0 := Lib.hid h
  have HOK := Lib.hid hok
  clear h hok hcap hle
  go_enter Tryd.func21, Tryd.ntmps21
  go_wp2_with fail
  go_loopw [5, 6] (fun s5 s6 wr => ∃ (i c' : Nat) (A' : Option Addr) (es : List Ent), i ≤ n ∧ i ≤ m ∧ s6 = .int .i64 i ∧ s5 = .slice A' i c' ∧ Hid (es.length = i) ∧
      Hid (wr.ownsRow w.heap.size 70 7 (.slice A' i c') i (els es)) ∧ Hid (∀ e ∈ es, EntSm e) ∧ Hid (Below w.heap.size w wr))
    (fun _ s6 _ => n - (intOf s6).toNat)
  case atStart => exact ⟨0, 0, none, [], by omega, by omega, rfl, rfl, Lib.hid rfl, Lib.hid (World.ownsRow_nil _ _ _ _), Lib.hid (by simp), Lib.hid (Below.refl _ _)⟩
  case round =>
    obtain ⟨i, c1, A1, es, hin, him, rfl, rfl, HL, O, HS, BL⟩ := hrel
    have fin : min n m = i → ∃ (A' : Option Addr) (c' : Nat) (es' : List Ent), Ending.returned (.slice A1 i c1) = .returned (.slice A' es'.length c') ∧ es'.length = min n ((m : Nat) : Int).toNat ∧
      wr.ownsRow w.heap.size 70 7 (.slice A' es'.length c') es'.length (els es') ∧ (∀ e ∈ es', EntSm e) ∧ Below w.heap.size w wr := by
      intro hm
      refine ⟨A1, c1, es, by rw [HL.out], by rw [HL.out, Int.toNat_natCast, hm], ?_, HS.out, BL.out⟩
      rw [HL.out]; exact O.out
    have FIN := Lib.hid fin
    clear fin
    by_cases h1 : i < n
    · by_cases h2 : i < m
      · obtain ⟨b, o, e, rfl, -, he, hmem, d0, d1, d2, d3, d4, d5, d6⟩ := (R0.out.below BL.out).ent h1
        have hE := HOK.out e hmem
        have HE := Lib.hid hE
        clear he hmem hE FIN
        go_wp2_with fail
        clear d0 d1 d2 d3 d4 d5 d6
        refine (lCut_c wr e).mono ?_
        simp only [ev]
        rintro x w1 ⟨t, rfl, ht1, ht2, b1⟩
        have HSm := Lib.hid (show EntSm ⟨e.fr, e.boot, e.seq, e.ord, e.lev, e.stamp, t⟩ from ⟨⟨HE.out.fit.f0, HE.out.fit.f1, HE.out.fit.f2, HE.out.fit.f3, HE.out.fit.f4, HE.out.fit.f5⟩, ht1⟩)
        have B1 := Lib.hid (BL.out.trans (b1.mono BL.out.size))
        have O1 := Lib.hid (own_below O.out b1)
        clear b1 O BL ht1 ht2
        go_wp2_with (at_builtin; go_must (refine wpList_pushes rfl (.tmp 18) (.tmp 24) _ rfl w.heap.size 70 (ev zeroE) 7 64 1 Tryd.underlying28 ent_info rfl (by omega) rfl (by unfold maxLen; omega) A1 c1 i (els es) rfl O1.out rfl ?h1 ?h2 ?h3 ?h4 ?_))
        case h1 => exact ⟨rfl, rfl, rfl, rfl, rfl, rfl, rfl⟩
        case h2 => unfold maxLen; omega
        case h3 => omega
        case h4 => exact B1.out.size
        intro A2 c2 w2 hown2 hg2 hb2
        have B2 := Lib.hid (B1.out.trans hb2)
        have O2 := Lib.hid (show w2.ownsRow w.heap.size 70 7 (.slice A2 (i + 1) c2) (i + 1) (els (es ++ [⟨e.fr, e.boot, e.seq, e.ord, e.lev, e.stamp, t⟩])) by rw [els_append]; exact hown2)
        clear hown2 hg2 hb2 B1 O1
        go_wp2_with fail
        go_roundw
        case rel => exact ⟨i + 1, c2, A2, es ++ [⟨e.fr, e.boot, e.seq, e.ord, e.lev, e.stamp, t⟩], by omega, by omega, by go_num, rfl, Lib.hid (by simp [HL.out]), O2, Lib.hid (fun y hy => by
          rcases List.mem_append.1 hy with hy | hy
          · exact HS.out y hy
          · rw [List.mem_singleton.1 hy]; exact HSm.out), B2⟩
        case measure => simp [intOf]; omega
      · go_wp2_with fail
        go_ret
        exact FIN.out (by omega)
    · go_wp2_with fail
      go_ret
      exact FIN.out (by omega)

end Go.Proofs.YtfijjdahoimoeaaDoor

/- Decode in two ways; the statements' Cut of a message. -/
namespace Go.Proofs.YtfijjdahoimoeaaDoor
open Go.RowKit


theorem wDecode_some {w : World} {B : Nat} {A : Option Addr} {c n : Nat} {l : List Int} {m : Msg} (h : Rd w B A c 1 n (bs l)) (hb : isB l) (ht : Tab w) (hn : n ≤ 1000000) (hd : PMsg.dec l = some m) :
    Calls Tryd.prog 22 #[.slice A n c] w fun x w' => ∃ (A' : Option Addr) (c' : Nat), x = .returned (.tuple #[.agg #[.int .i64 m.kind, .int .i64 m.fr, .int .i64 m.dst, .int .i64 m.boot, .int .i64 m.view, .int .i64 m.last, .int .i64 m.mem, .int .i64 m.pos, .slice A' m.es.length c', .int .i64 m.com, .int .i64 m.num, .int .i64 m.clk, .bool m.yes], .int .i64 0]) ∧ Rd w' w'.heap.size A' c' 7 m.es.length (els m.es) ∧ Below w.heap.size w w' := by
  have := wDecode_c w B A c n l h hb ht hn
  rw [hd] at this
  exact this.mono fun x w' ⟨A', c', e, o, hb⟩ => ⟨A', c', e, Rd.of_own o, hb⟩
theorem wDecode_none {w : World} {B : Nat} {A : Option Addr} {c n : Nat} {l : List Int} (h : Rd w B A c 1 n (bs l)) (hb : isB l) (ht : Tab w) (hn : n ≤ 1000000) (hd : PMsg.dec l = none) :
    Calls Tryd.prog 22 #[.slice A n c] w fun x w' => ∃ (A' : Option Addr) (c' : Nat), x = .returned (.tuple #[.agg #[.int .i64 0, .int .i64 0, .int .i64 0, .int .i64 0, .int .i64 0, .int .i64 0, .int .i64 0, .int .i64 0, .slice A' 0 c', .int .i64 0, .int .i64 0, .int .i64 0, .bool false], .int .i64 1]) ∧ Below w.heap.size w w' := by
  have := wDecode_c w B A c n l h hb ht hn
  rw [hd] at this
  exact this.mono fun x w' ⟨A', c', e, _, hb⟩ => ⟨A', c', e, hb⟩
/-- What is owned, behind a write of a block of another type. -/
theorem own_apartB {w w' : World} {base k n g : Nat} {e t : TypeId} {v : Value} {xs ys : List Value} (h : w.ownsRow base e k v n xs) (K : Blk w g t ys) (hne : t ≠ e) (hg : w.grownBy w' (some g)) : w'.ownsRow base e k v n xs :=
  own_touch h (Touch.of_grown hg) (fun s hs zs hz => by
    obtain rfl := List.mem_singleton.1 hs
    exact K.ne hz hne rfl)
/-- The same message with other entries. -/
def withE (m : Msg) (es : List Ent) : Msg := { m with es := es }
set_option maxHeartbeats 4000000 in
set_option maxRecDepth 100000 in
theorem lCutM_c (w : World) (m : Msg) (A : Option Addr) (c : Nat) (h : Rd w w.heap.size A c 7 m.es.length (els m.es)) (hok : ∀ e ∈ m.es, EntOk e) :
    Calls Tryd.prog 10 #[mv m A c] w fun x w' => ∃ (A' : Option Addr) (c' : Nat) (es : List Ent), x = .returned (mv (withE m es) A' c') ∧ es.length ≤ 62 ∧
      w'.ownsRow w.heap.size 70 7 (.slice A' es.length c') es.length (els es) ∧ (∀ e ∈ es, EntSm e) ∧ Below w.heap.size w w' := by
  have b1 := ((Below.refl w.heap.size w).alloc (Nat.le_refl _) (.cells #[.int .i64 m.kind, .int .i64 m.fr, .int .i64 m.dst, .int .i64 m.boot, .int .i64 m.view, .int .i64 m.last, .int .i64 m.mem, .int .i64 m.pos, .slice A m.es.length c, .int .i64 m.com, .int .i64 m.num, .int .i64 m.clk, .bool m.yes] 30)).alloc (by simp) (.cells #[.int .i64 0, .int .i64 0, .int .i64 0, .int .i64 0, .int .i64 0, .int .i64 0, .int .i64 0, .int .i64 0, .slice none 0 0, .int .i64 0, .int .i64 0, .int .i64 0, .bool false] 30)
  have K0 := (Blk.new w #[.int .i64 m.kind, .int .i64 m.fr, .int .i64 m.dst, .int .i64 m.boot, .int .i64 m.view, .int .i64 m.last, .int .i64 m.mem, .int .i64 m.pos, .slice A m.es.length c, .int .i64 m.com, .int .i64 m.num, .int .i64 m.clk, .bool m.yes] 30).alloc (.cells #[.int .i64 0, .int .i64 0, .int .i64 0, .int .i64 0, .int .i64 0, .int .i64 0, .int .i64 0, .int .i64 0, .slice none 0 0, .int .i64 0, .int .i64 0, .int .i64 0, .bool false] 30)
  have Z0 := Blk.new (w.alloc (.cells #[.int .i64 m.kind, .int .i64 m.fr, .int .i64 m.dst, .int .i64 m.boot, .int .i64 m.view, .int .i64 m.last, .int .i64 m.mem, .int .i64 m.pos, .slice A m.es.length c, .int .i64 m.com, .int .i64 m.num, .int .i64 m.clk, .bool m.yes] 30)) #[.int .i64 0, .int .i64 0, .int .i64 0, .int .i64 0, .int .i64 0, .int .i64 0, .int .i64 0, .int .i64 0, .slice none 0 0, .int .i64 0, .int .i64 0, .int .i64 0, .bool false] 30
  rw [show (w.alloc (.cells #[.int .i64 m.kind, .int .i64 m.fr, .int .i64 m.dst, .int .i64 m.boot, .int .i64 m.view, .int .i64 m.last, .int .i64 m.mem, .int .i64 m.pos, .slice A m.es.length c, .int .i64 m.com, .int .i64 m.num, .int .i64 m.clk, .bool m.yes] 30)).heap.size = w.heap.size + 1 by simp] at Z0
  have R0 := Lib.hid h
  have HO := Lib.hid hok
  clear h hok
  show Calls _ _ #[.agg #[.int .i64 m.kind, .int .i64 m.fr, .int .i64 m.dst, .int .i64 m.boot, .int .i64 m.view, .int .i64 m.last, .int .i64 m.mem, .int .i64 m.pos, .slice A m.es.length c, .int .i64 m.com, .int .i64 m.num, .int .i64 m.clk, .bool m.yes]] _ _
  go_enter Tryd.func10, Tryd.ntmps10
  go_wp2_with fail
  have hs : ((w.alloc (.cells #[.int .i64 m.kind, .int .i64 m.fr, .int .i64 m.dst, .int .i64 m.boot, .int .i64 m.view, .int .i64 m.last, .int .i64 m.mem, .int .i64 m.pos, .slice A m.es.length c, .int .i64 m.com, .int .i64 m.num, .int .i64 m.clk, .bool m.yes] 30)).alloc (.cells #[.int .i64 0, .int .i64 0, .int .i64 0, .int .i64 0, .int .i64 0, .int .i64 0, .int .i64 0, .int .i64 0, .slice none 0 0, .int .i64 0, .int .i64 0, .int .i64 0, .bool false] 30)).heap.size = w.heap.size + 2 := by simp
  generalize (w.alloc (.cells #[.int .i64 m.kind, .int .i64 m.fr, .int .i64 m.dst, .int .i64 m.boot, .int .i64 m.view, .int .i64 m.last, .int .i64 m.mem, .int .i64 m.pos, .slice A m.es.length c, .int .i64 m.com, .int .i64 m.num, .int .i64 m.clk, .bool m.yes] 30)).alloc (.cells #[.int .i64 0, .int .i64 0, .int .i64 0, .int .i64 0, .int .i64 0, .int .i64 0, .int .i64 0, .int .i64 0, .slice none 0 0, .int .i64 0, .int .i64 0, .int .i64 0, .bool false] 30) = w1 at *
  have BL1 := Lib.hid b1
  have K1 := Lib.hid (show Blk w1 w.heap.size 30 (mcs m A c) from K0)
  have Z1 := Lib.hid (show Blk w1 (w.heap.size + 1) 30 (mcs zeroM none 0) from Z0)
  clear b1 K0 Z0 hs
  refine (lEntries_c w1 A c m.es.length m.es 62 ((R0.out.past BL1.out).tight) HO.out (by omega) (by omega)).mono ?_
  rintro x w2 ⟨A2, c2, es, rfl, hl, hown, hsm, b2⟩
  have BL2 := Lib.hid (BL1.out.trans (b2.mono BL1.out.size))
  have K2 := Lib.hid (K1.out.past b2)
  have Z2 := Lib.hid (Z1.out.past b2)
  have O2 := Lib.hid (own_from hown BL1.out.size)
  have HSM := Lib.hid hsm
  have HL := Lib.hid (show es.length ≤ 62 by rw [hl]; have : (62 : Int).toNat = 62 := rfl; omega)
  have HW := Lib.hid (show 0 < es.length → ∃ g, A2 = some ⟨g, 0, none⟩ ∧ w1.heap.size ≤ g from fun h0 => by obtain ⟨g, e, hg, _⟩ := own_some hown h0; exact ⟨g, e, hg⟩)
  have k8 := K2.out.cell (i := 8) rfl
  have f8 := K2.out.free 8
  have K3 := Lib.hid (show Blk (w2.setCell ⟨w.heap.size, 8, none⟩ (.slice A2 es.length c2)) w.heap.size 30 (mcs (withE m es) A2 c2) from K2.out.set 8 (.slice A2 es.length c2))
  have G3 := grown_set w2 w.heap.size 8 (.slice A2 es.length c2)
  have Z3 := Lib.hid (Z2.out.far G3 (by omega))
  have BL3 := Lib.hid (BL2.out.trans (grown_below G3 (Nat.le_refl _) BL2.out.size))
  have hZ1 := Z1.out.lt
  have O3 := Lib.hid (own_apartB O2.out K2.out (by decide) G3)
  clear hown hsm b2 K1 Z1 BL1 K2 Z2 BL2 hl G3 hZ1 O2
  go_wp2_with (first
    | ((with_reducible show wpList _ _ _ ((⟨some 7, Op.load _ _, _, _, _, _⟩ : Oper) :: _) _ _); go_must (refine wpList_load_row rfl 30 (.tmp 1) rfl w.heap.size rfl 30 #[.int .i64 m.kind, .int .i64 m.fr, .int .i64 m.dst, .int .i64 m.boot, .int .i64 m.view, .int .i64 m.last, .int .i64 m.mem, .int .i64 m.pos, .slice A2 es.length c2, .int .i64 m.com, .int .i64 m.num, .int .i64 m.clk, .bool m.yes] (0, 0) _ K3.out Tryd.underlying30 rfl (by kernel_rfl) ?_))
    | ((with_reducible show wpList _ _ _ ((⟨none, Op.store 30 (.tmp 2) _, _, _, _, _⟩ : Oper) :: _) _ _); go_must (refine wpList_store_row rfl 30 (.tmp 2) (.tmp 7) rfl (w.heap.size + 1) _ rfl rfl _ _ Z3.out (by kernel_rfl) (by rfl) (by kernel_rfl) ?_)))
  have Z4 := Z3.out.row #[.int .i64 m.kind, .int .i64 m.fr, .int .i64 m.dst, .int .i64 m.boot, .int .i64 m.view, .int .i64 m.last, .int .i64 m.mem, .int .i64 m.pos, .slice A2 es.length c2, .int .i64 m.com, .int .i64 m.num, .int .i64 m.clk, .bool m.yes]
  have G4 := grown_row (w2.setCell ⟨w.heap.size, 8, none⟩ (.slice A2 es.length c2)) (w.heap.size + 1) #[.int .i64 m.kind, .int .i64 m.fr, .int .i64 m.dst, .int .i64 m.boot, .int .i64 m.view, .int .i64 m.last, .int .i64 m.mem, .int .i64 m.pos, .slice A2 es.length c2, .int .i64 m.com, .int .i64 m.num, .int .i64 m.clk, .bool m.yes]
  refine bodyPost_ret (v := mv (withE m es) A2 c2) (results_cell_row rfl _ _ (w.heap.size + 1) _ _ _ _ rfl Z4 Tryd.underlying30 rfl (by kernel_rfl)) rfl ⟨A2, c2, es, rfl, HL.out, own_apartB O3.out Z3.out (by decide) G4, HSM.out, BL3.out.trans (grown_below G4 (Nat.le_succ _) BL3.out.size)⟩
end Go.Proofs.YtfijjdahoimoeaaDoor

