/- The library's IndexFunc, ContainsFunc, Clone at entries. -/
import Derived.Test.YtacipjdaiglnjaaGreatDoorSeg2
import Derived.Laws.StructEq
import Derived.Shelf.Abstract
import Derived.Test.YtacipjdaiglnjaaGreatDoorSeg1
import Derived.Test.YtacipjdaiglnjaaGreatDoorRows
import Derived.Great.BuildSlice
namespace Go.Proofs.YtacipjdaiglnjaaGreatDoor
open Go.RowKit


set_option maxHeartbeats 4000000 in
set_option maxRecDepth 100000 in
theorem indexE2_c (w : World) (B : Nat) (A : Option Addr) (c n : Nat) (l : List Ent) (h : Rd w B A c 7 n (els l)) (G : FuncId) (cb : Array Value) (p : Ent → Bool) (eg : ∀ args w, (callFunc G args).run Tryz.prog w = .ok (.enter G args) w)
    (hG : ∀ W (x : Ent), Below w.heap.size w W → Calls Tryz.prog G (#[ev x] ++ cb) W fun e W' => e = .returned (.bool (p x)) ∧ Below W.heap.size W W') :
    Calls Tryz.prog 168 #[.slice A n c, .func (.func G) #[] cb] w fun e w' => ((∃ i : Nat, e = .returned (.int .i64 i) ∧ i < n ∧ (l.take i).any p = false ∧ l[i]?.map p = some true) ∨ e = .returned (.int .i64 (-1)) ∧ l.any p = false) ∧ Below w.heap.size w w' := by
  have HG := Lib.hid hG
  have R0 := Lib.hid h.tight
  have hcap := h.cap
  have hle := h.le
  have HL := Lib.hid h.elen
  have hn : n ≤ 9223372036854775807 := by unfold maxLen at hcap; omega
  clear hG h hcap hle
  go_enter Tryz.func168, Tryz.ntmps168
  go_wp2_with fail
  go_loopw [8] (fun s8 wr => ∃ i : Nat, s8 = .int .i64 i ∧ i ≤ n ∧ Hid ((l.take i).any p = false) ∧ Hid (Below w.heap.size w wr)) (fun s8 _ => n - (intOf s8).toNat)
  case atStart => exact ⟨0, rfl, by omega, Lib.hid rfl, Lib.hid (Below.refl _ _)⟩
  case round =>
    obtain ⟨i, rfl, hi, HP, BT⟩ := hrel
    by_cases hin : i < n
    · obtain ⟨b, o, x, rfl, -, he, -, d0, d1, d2, d3, d4, d5, d6⟩ := (R0.out.below BT.out).ent hin
      have HX := Lib.hid he
      clear he
      have HC := Lib.hid (HG.out wr x BT.out)
      cases hp : p x
      · rw [hp] at HC
        have HP' := Lib.hid (any_take HX.out HP.out hp)
        clear hp
        go_wp2_with fail
        refine HC.out.mono ?_
        rintro e w1 ⟨rfl, b1⟩
        have B1 := Lib.hid (BT.out.trans (b1.mono BT.out.size))
        clear b1 d0 d1 d2 d3 d4 d5 d6
        go_wp2_with fail
        go_roundw
        case rel => exact ⟨i + 1, by go_num, by omega, HP', B1⟩
        case measure => simp [intOf]; omega
      · rw [hp] at HC
        have HP' := Lib.hid (show l[i]?.map p = some true by rw [HX.out]; exact congrArg some hp)
        clear hp
        go_wp2_with fail
        refine HC.out.mono ?_
        rintro e w1 ⟨rfl, b1⟩
        have B1 := Lib.hid (BT.out.trans (b1.mono BT.out.size))
        clear b1 d0 d1 d2 d3 d4 d5 d6
        go_wp2_with fail
        go_ret
        exact ⟨Or.inl ⟨i, rfl, hin, HP.out, HP'.out⟩, B1.out⟩
    · obtain rfl : i = n := by omega
      have HF := Lib.hid (show l.any p = false by have := HP.out; rwa [List.take_of_length_le (by rw [HL.out]; omega)] at this)
      go_wp2_with fail
      go_ret
      exact ⟨Or.inr ⟨rfl, HF.out⟩, BT.out⟩

/-- Whether there is one. -/
theorem indexE_c (w : World) (B : Nat) (A : Option Addr) (c n : Nat) (l : List Ent) (h : Rd w B A c 7 n (els l)) (G : FuncId) (cb : Array Value) (p : Ent → Bool) (eg : ∀ args w, (callFunc G args).run Tryz.prog w = .ok (.enter G args) w)
    (hG : ∀ W (x : Ent), Below w.heap.size w W → Calls Tryz.prog G (#[ev x] ++ cb) W fun e W' => e = .returned (.bool (p x)) ∧ Below W.heap.size W W') :
    Calls Tryz.prog 168 #[.slice A n c, .func (.func G) #[] cb] w fun e w' => ((∃ i : Nat, e = .returned (.int .i64 i) ∧ l.any p = true) ∨ e = .returned (.int .i64 (-1)) ∧ l.any p = false) ∧ Below w.heap.size w w' := by
  refine (indexE2_c w B A c n l h G cb p eg hG).mono ?_
  rintro e w' ⟨⟨i, rfl, _, _, hx⟩ | h, hb⟩
  · cases hy : l[i]? with
    | none => rw [hy] at hx; cases hx
    | some x =>
      rw [hy] at hx
      exact ⟨.inl ⟨i, rfl, any_at hy (by simpa using hx)⟩, hb⟩
  · exact ⟨.inr h, hb⟩

theorem containsE_c (w : World) (B : Nat) (A : Option Addr) (c n : Nat) (l : List Ent) (h : Rd w B A c 7 n (els l)) (G : FuncId) (cb : Array Value) (p : Ent → Bool) (eg : ∀ args w, (callFunc G args).run Tryz.prog w = .ok (.enter G args) w)
    (hG : ∀ W (x : Ent), Below w.heap.size w W → Calls Tryz.prog G (#[ev x] ++ cb) W fun e W' => e = .returned (.bool (p x)) ∧ Below W.heap.size W W') :
    Calls Tryz.prog 169 #[.slice A n c, .func (.func G) #[] cb] w fun e w' => e = .returned (.bool (l.any p)) ∧ Below w.heap.size w w' := by
  have HC := Lib.hid (indexE_c w B A c n l h G cb p eg hG)
  clear h hG
  go_enter Tryz.func169, Tryz.ntmps169
  go_wp2_with fail
  refine HC.out.mono ?_
  rintro e w1 ⟨⟨i, rfl, ha⟩ | ⟨rfl, ha⟩, b1⟩
  · have h0 : (0 : Int) ≤ (i : Int) := by omega
    have HA := Lib.hid ha
    clear ha
    go_wp2_with fail
    go_ret
    exact ⟨by rw [HA.out]; rfl, b1⟩
  · have HA := Lib.hid ha
    clear ha
    go_wp2_with fail
    go_ret
    exact ⟨by rw [HA.out]; rfl, b1⟩

theorem cloneE_c (w : World) (B : Nat) (A : Option Addr) (c n : Nat) (l : List Ent) (h : Rd w B A c 7 n (els l)) (hn : n ≤ 1000000) :
    Calls Tryz.prog 78 #[.slice A n c] w fun e w' => ∃ A' c', e = .returned (.slice A' n c') ∧ w'.ownsRow w.heap.size 93 7 (.slice A' n c') n (els l) ∧ Below w.heap.size w w' := by
  have hl := h.elen
  cases A with
  | none =>
    have hc := h.2.2.2.1 rfl
    have hle := h.le
    have h0 : n = 0 := by omega
    subst h0
    subst hc
    have e0 : l = [] := List.eq_nil_of_length_eq_zero hl
    subst e0
    clear h hl hle
    have hnil : ∀ W, (binOp .eql 29 (.slice none 0 0) (.slice none 0 0)).run Tryz.prog W = .ok (.bool true) W := fun W => by rw [run_eql_nil_slice W _ _ none 0 0 0 0 Tryz.underlying29]; rfl
    go_enter Tryz.func78, Tryz.ntmps78
    go_wp2_with fail
    go_ret
    exact ⟨none, 0, rfl, World.ownsRow_nil _ _ _ _, Below.refl _ _⟩
  | some ad =>
    have hr := h.alloc (.cells #[] 93)
    have hown0 := World.ownsRow_lit (base := w.heap.size) (e := 93) (size := 7) w #[] 0 (Nat.le_refl _) (by simp [maxLen]) rfl
    have hb0 : Below w.heap.size w (w.alloc (.cells #[] 93)) := (Below.refl _ _).alloc (Nat.le_refl _) _
    clear h hl
    have hnil : ∀ W, (binOp .eql 29 (.slice (some ad) n c) (.slice none 0 0)).run Tryz.prog W = .ok (.bool false) W := fun W => Lib.run_eql_slice_nil W _ _ (some ad) n c 0 0 Tryz.underlying29
    go_enter Tryz.func78, Tryz.ntmps78
    go_wp2_with (at_builtin; go_must (refine wpList_app rfl (.tmp 5) (.tmp 6) _ rfl w.heap.size 93 _ 7 64 Tryz.underlying29 ent_info rfl (by omega) _ 0 [] rfl hown0 B (some ad) c n (els l) rfl hr (els_one l) ?c1 ?c2 hb0.size ?_))
    case c1 => unfold maxLen; omega
    case c2 => omega
    intro A' c' w1 hown1 hgrow1 hbel1
    have hown1' : w1.ownsRow w.heap.size 93 7 (.slice A' n c') n (els l) := by simpa using hown1
    clear hown1
    have e1 : (0 + n) = n := by omega
    try rw [e1]
    go_wp2_with fail
    go_ret
    exact ⟨A', c', rfl, hown1', hb0.trans hbel1⟩
end Go.Proofs.YtacipjdaiglnjaaGreatDoor

/- Plain mathematics of logs: what may be added, put, what is the beginning of what. No program is named here. -/
namespace Go.Proofs.YtacipjdaiglnjaaGreatDoor
namespace PLog
open PEnt

/-- A Same one is there; its stamp is below the last one's; it can be added. -/
def has (L : List Ent) (e : Ent) : Bool := L.any (fun x => same x e)
def early (L : List Ent) (e : Ent) : Bool := match L.getLast? with
  | some x => decide (e.stamp < x.stamp)
  | none => false
def can (L : List Ent) (e : Ent) : Bool := may e && decide (L.length < 60) && !early L e && !has L e
def add (L : List Ent) (e : Ent) : List Ent := if can L e then L ++ [e] else L
def log (es : List Ent) : List Ent := es.foldl add []
/-- All can be added, one by one. -/
def okN : List Ent → List Ent → Bool
  | _, [] => true
  | L, e :: r => can L e && okN (L ++ [e]) r
/-- a is b's beginning. -/
def front (a b : List Ent) : Bool := decide (a.length ≤ b.length) && eqL a (b.take a.length)
/-- es stand at the beginning of M, or go on behind it and can be added to L. -/
def putM : List Ent → List Ent → List Ent → Bool
  | [], L, es => okN L es
  | _ :: _, _, [] => true
  | x :: M, L, e :: es => eqE e x && putM M L es
def okPut (L : List Ent) (k : Nat) (es : List Ent) : Bool := putM (L.drop k) L es
def put (L : List Ent) (k : Nat) (es : List Ent) : List Ent := if okPut L k es then L ++ es.drop (L.length - k) else L

theorem same_self (a : Ent) : same a a = true := by simp [same]
theorem okN_append (L a b : List Ent) : okN L (a ++ b) = (okN L a && okN (L ++ a) b) := by
  induction a generalizing L with
  | nil => simp [okN]
  | cons e r ih => simp [okN, ih, Bool.and_assoc]
theorem add_len {L : List Ent} (h : L.length ≤ 60) (e : Ent) : (add L e).length ≤ 60 := by
  unfold add; split
  · next hc => simp only [can, Bool.and_eq_true, decide_eq_true_eq] at hc; simp; omega
  · exact h
theorem can_lt {L : List Ent} {e : Ent} (h : can L e = true) : L.length < 60 := by
  simp only [can, Bool.and_eq_true, decide_eq_true_eq] at h; exact h.1.1.2
theorem log_append (a : List Ent) (e : Ent) : log (a ++ [e]) = add (log a) e := by simp [log]
theorem foldl_ok (es : List Ent) : ∀ L, okN [] L = true → okN [] (es.foldl add L) = true := by
  induction es with
  | nil => intro L h; exact h
  | cons e r ih =>
    intro L h
    refine ih _ ?_
    unfold add; split
    · next hc => rw [okN_append, h]; simp [okN, hc]
    · exact h
theorem okN_foldl (es : List Ent) : ∀ L, okN L es = true → es.foldl add L = L ++ es := by
  induction es with
  | nil => intro L _; simp
  | cons e r ih =>
    intro L h
    simp only [okN, Bool.and_eq_true] at h
    rw [List.foldl_cons, add, if_pos h.1, ih _ h.2, List.append_assoc]; rfl
theorem ok_take {L : List Ent} (h : okN [] L = true) (n : Nat) : okN [] (L.take n) = true ∧ okN (L.take n) (L.drop n) = true := by
  have h2 := okN_append [] (L.take n) (L.drop n)
  rw [List.take_append_drop, h, List.nil_append] at h2
  simpa using h2.symm
theorem foldl_len (es : List Ent) : ∀ L : List Ent, L.length ≤ 60 → (es.foldl add L).length ≤ 60 := by
  induction es with
  | nil => intro L h; exact h
  | cons e r ih => intro L h; exact ih _ (add_len h e)
theorem log_len (es : List Ent) : (log es).length ≤ 60 := foldl_len es [] (by simp)
theorem okN_len {L es : List Ent} (hL : L.length ≤ 60) (h : okN L es = true) : (L ++ es).length ≤ 60 := by
  rw [← okN_foldl es L h]; exact foldl_len es L hL
/-- Each entry of a log may be. -/
theorem okN_may : ∀ (es : List Ent) (L : List Ent), okN L es = true → ∀ e ∈ es, may e = true
  | [], _, _, e, he => by simp at he
  | x :: r, L, h, e, he => by
    simp only [okN, Bool.and_eq_true] at h
    rcases List.mem_cons.1 he with rfl | he
    · have := h.1; simp only [can, Bool.and_eq_true] at this; exact this.1.1.1
    · exact okN_may r _ h.2 e he
/-- At place i of a log: no Same one ahead, no greater stamp just ahead. -/
theorem ok_at {L : List Ent} (h : okN [] L = true) {i : Nat} {e : Ent} (he : L[i]? = some e) : can (L.take i) e = true := by
  obtain ⟨hi, hx⟩ := List.getElem?_eq_some_iff.1 he
  have h2 := (ok_take h i).2
  rw [List.drop_eq_getElem_cons hi, hx] at h2
  simp only [okN, Bool.and_eq_true] at h2
  exact h2.1
theorem ok_twin {L : List Ent} (h : okN [] L = true) {i k : Nat} {e x : Ent} (he : L[i]? = some e) (hk : L[k]? = some x) (hki : k < i) : same e x = false := by
  have h2 := ok_at h he
  simp only [can, Bool.and_eq_true, Bool.not_eq_true'] at h2
  have h3 := h2.2
  unfold has at h3
  rw [List.any_eq_false] at h3
  obtain ⟨hk1, hk2⟩ := List.getElem?_eq_some_iff.1 hk
  have hm : x ∈ L.take i := by
    rw [← hk2]
    have hkl : k < (L.take i).length := by rw [List.length_take]; omega
    have : (L.take i)[k] = L[k] := List.getElem_take ..
    rw [← this]; exact List.getElem_mem hkl
  have h4 := h3 x hm
  have h5 : same x e = false := by simpa using h4
  have h6 : same e x = same x e := by
    unfold same
    congr 1
    · congr 1
      · by_cases q : e.fr = x.fr
        · rw [q]
        · rw [beq_false_of_ne q, beq_false_of_ne (Ne.symm q)]
      · by_cases q : e.boot = x.boot
        · rw [q]
        · rw [beq_false_of_ne q, beq_false_of_ne (Ne.symm q)]
    · by_cases q : e.seq = x.seq
      · rw [q]
      · rw [beq_false_of_ne q, beq_false_of_ne (Ne.symm q)]
  rw [h6, h5]
end PLog
end Go.Proofs.YtacipjdaiglnjaaGreatDoor

/- Contract of the document's EqAll; an entry loaded in a region that draws. -/
namespace Go.Proofs.YtacipjdaiglnjaaGreatDoor
open Go.RowKit

end Go.Proofs.YtacipjdaiglnjaaGreatDoor

/- 'Lg': the program's log at block g, with the blocks that are its own; 'Went': what a call that writes it leaves. -/
namespace Go.Proofs.YtacipjdaiglnjaaGreatDoor
open Go.RowKit

/-- The log at block g holds L; F are its blocks. -/
structure Lg (w : World) (g : Nat) (F : List Nat) (L : List Ent) : Prop where
  ex : ∃ A c, Blk w g 131 [.slice A L.length c] ∧ Ow w 0 93 7 A L.length c (els L) ∧ F = g :: bl A
  le : L.length ≤ 60

section
variable {w w' : World} {g : Nat} {F S : List Nat} {L : List Ent}
theorem Lg.hi (h : Lg w g F L) : ∀ k ∈ F, k < w.heap.size := by
  obtain ⟨A, c, hB, hO, rfl⟩ := h.ex
  intro k hk
  rcases List.mem_cons.1 hk with rfl | hk
  · exact hB.lt
  · exact hO.hi k (mem_bl.1 hk)
theorem Lg.touch (h : Lg w g F L) (ht : Touch S w w') (hd : ∀ k ∈ S, k ∉ F) : Lg w' g F L := by
  obtain ⟨A, c, hB, hO, rfl⟩ := h.ex
  exact ⟨⟨A, c, hB.touch ht (fun hm => hd g hm (List.mem_cons_self ..)), hO.touch ht (fun s hs e => hd s hs (List.mem_cons_of_mem _ (mem_bl.2 e))), rfl⟩, h.le⟩
theorem Lg.past (h : Lg w g F L) (hb : Below w.heap.size w w') : Lg w' g F L := h.touch (S := []) (.of_below hb) (by simp)
theorem Lg.drew (h : Lg w g F L) : Lg w.drew g F L := ⟨h.ex, h.le⟩
theorem Lg.alloc (h : Lg w g F L) (o : Obj) : Lg (w.alloc o) g F L := h.past ((Below.refl _ _).alloc (Nat.le_refl _) _)
theorem Lg.self (h : Lg w g F L) : g ∈ F := by obtain ⟨A, c, hB, hO, rfl⟩ := h.ex; exact List.mem_cons_self ..
/-- Its cell, its slice. -/
theorem Lg.open (h : Lg w g F L) : ∃ A c, w.cell? ⟨g, 0, none⟩ = some (.slice A L.length c) ∧ Rd w w.heap.size A c 7 L.length (els L) ∧ (∀ k, bk A = some k → k ∈ F) := by
  obtain ⟨A, c, hB, hO, rfl⟩ := h.ex
  exact ⟨A, c, hB.cell (i := 0) rfl, hO.rd, fun k hk => List.mem_cons_of_mem _ (mem_bl.2 hk)⟩

/-- What a call leaves that writes the log at block g, whose blocks were F. -/
structure Went (w w' : World) (g : Nat) (F : List Nat) (L : List Ent) : Prop where
  ex : ∃ F', Lg w' g F' L ∧ ∀ k ∈ F', k ∈ F ∨ w.heap.size ≤ k
  touch : Touch F w w'
theorem Went.same (h : Lg w g F L) (hb : Below w.heap.size w w') : Went w w' g F L := ⟨⟨F, h.past hb, fun _ hk => .inl hk⟩, .of_below hb⟩
/-- Behind a call that made memory of its own alone. -/
theorem Went.behind {w0 : World} (h : Went w w' g F L) (hb : Below w0.heap.size w0 w) : Went w0 w' g F L := by
  obtain ⟨⟨F', h1, h2⟩, h3⟩ := h
  exact ⟨⟨F', h1, fun k hk => (h2 k hk).imp id (fun h => Nat.le_trans hb.size h)⟩, (Touch.of_below hb).trans h3⟩
theorem Went.ahead {w2 : World} (h : Went w w' g F L) (hb : Below w'.heap.size w' w2) : Went w w2 g F L := by
  obtain ⟨⟨F', h1, h2⟩, h3⟩ := h
  exact ⟨⟨F', h1.past hb, h2⟩, h3.trans (.of_below hb)⟩
/-- Two such calls. -/
theorem Went.trans {w1 w2 : World} {F' : List Nat} {L' : List Ent} (hF : ∀ k ∈ F', k ∈ F ∨ w.heap.size ≤ k) (ht : Touch F w w1) (k : Went w1 w2 g F' L') : Went w w2 g F L' := by
  obtain ⟨⟨F2, h1, h2⟩, h3⟩ := k
  refine ⟨⟨F2, h1, fun k hk => ?_⟩, ⟨h3.os.trans ht.os, h3.tape.trans ht.tape, h3.output.trans ht.output, Nat.le_trans ht.size h3.size, fun k hk hn => ?_⟩⟩
  · rcases h2 k hk with q | q
    · exact hF k q
    · exact .inr (Nat.le_trans ht.size q)
  · refine (h3.block k (Nat.lt_of_lt_of_le hk ht.size) (fun hm => ?_)).trans (ht.block k hk hn)
    rcases hF k hm with q | q
    · exact hn q
    · omega
/-- Behind an append to its slice, stored. -/
theorem Lg.app {A A2 : Option Addr} {c c2 : Nat} {e : Ent} {w2 : World} (hB : Blk w g 131 [.slice A L.length c]) (hO : Ow w 0 93 7 A L.length c (els L)) (hl : L.length < 60)
    (hg : w.grownBy w2 (bk A)) (hA : ∀ k, bk A2 = some k → bk A = some k ∨ w.heap.size ≤ k) (hO2 : Ow w2 0 93 7 A2 (L.length + 1) c2 (els L ++ ecs e)) :
    Went w (w2.setRow g #[.slice A2 (L.length + 1) c2]) g (g :: bl A) (L ++ [e]) := by
  have hne : bk A ≠ some g := hO.ne hB (by decide)
  have hT : Touch (g :: bl A) w w2 := (Touch.of_bk hg).wide (fun k hk => List.mem_cons_of_mem _ hk)
  have hB2 : Blk w2 g 131 [.slice A L.length c] := hB.touch (Touch.of_bk hg) (fun hm => hne (mem_bl.1 hm))
  have hne2 : bk A2 ≠ some g := hO2.ne hB2 (by decide)
  have hs := Touch.of_grown (grown_row w2 g #[.slice A2 (L.length + 1) c2])
  refine ⟨⟨g :: bl A2, ⟨⟨A2, c2, ?_, ?_, rfl⟩, by simp; omega⟩, fun k hk => ?_⟩, hT.trans (hs.wide (by simp))⟩
  · have := hB2.row #[.slice A2 (L.length + 1) c2]
    simpa using this
  · have := hO2.touch hs (by simpa using hne2)
    have e1 : els (L ++ [e]) = els L ++ ecs e := by rw [els_append]; simp [els]
    rw [e1]; simpa using this
  · rcases List.mem_cons.1 hk with rfl | hk
    · exact .inl (List.mem_cons_self ..)
    · rcases hA k (mem_bl.1 hk) with q | q
      · exact .inl (List.mem_cons_of_mem _ (mem_bl.2 q))
      · exact .inr q
end
end Go.Proofs.YtacipjdaiglnjaaGreatDoor

/- Contracts of the library's IndexFunc, ContainsFunc, EqualFunc, Clone at entries; of Has's closure, of Front. -/
namespace Go.Proofs.YtacipjdaiglnjaaGreatDoor
open Go.RowKit


set_option maxRecDepth 100000 in
theorem hasClose_c (w : World) (k : Nat) (x e : Ent) (K : Blk w k 93 (ecs e)) :
    Calls Tryz.prog 205 #[ev x, .pointer (some ⟨k, 0, none⟩)] w fun q w' => q = .returned (.bool (PEnt.same x e)) ∧ Below w.heap.size w w' := by
  have b0 := (Below.refl w.heap.size w).alloc (Nat.le_refl _) (.cells #[.int .i64 x.fr, .int .i64 x.boot, .int .i64 x.seq, .int .i64 x.ord, .int .i64 x.lev, .int .i64 x.stamp, .string x.data] 93)
  have K1 := Blk.newEnt w 93 x
  have K2 := K.alloc (.cells #[.int .i64 x.fr, .int .i64 x.boot, .int .i64 x.seq, .int .i64 x.ord, .int .i64 x.lev, .int .i64 x.stamp, .string x.data] 93)
  obtain ⟨d0, d1, d2, d3, d4, d5, d6⟩ := K1.ent
  obtain ⟨f0, f1, f2, f3, f4, f5, f6⟩ := K2.ent
  clear K K1 K2
  show Calls _ _ #[.agg #[.int .i64 x.fr, .int .i64 x.boot, .int .i64 x.seq, .int .i64 x.ord, .int .i64 x.lev, .int .i64 x.stamp, .string x.data], _] _ _
  go_enter Tryz.func205, Tryz.ntmps205
  go_wp2_with fail
  generalize (w.alloc (.cells #[.int .i64 x.fr, .int .i64 x.boot, .int .i64 x.seq, .int .i64 x.ord, .int .i64 x.lev, .int .i64 x.stamp, .string x.data] 93)) = w1 at *
  clear d0 d1 d2 d3 d4 d5 d6 f0 f1 f2 f3 f4 f5 f6
  refine (Same_c w1 x e).mono ?_
  rintro q w2 ⟨rfl, b2⟩
  go_wp2_with fail
  go_ret
  exact ⟨rfl, b0.trans (b2.mono b0.size)⟩

end Go.Proofs.YtacipjdaiglnjaaGreatDoor

/- Contracts of entries: isIn, May, Same, Eq, of the program and of the document. -/
namespace Go.Proofs.YtacipjdaiglnjaaGreatDoor
open Go.RowKit

theorem isIn_c (w : World) (n lo hi : Int) :
    Calls Tryz.prog 178 #[.int .i64 n, .int .i64 lo, .int .i64 hi] w fun e w' => e = .returned (.bool (decide (lo ≤ n ∧ n ≤ hi))) ∧ w = w' := by
  obtain ⟨r, HR⟩ : ∃ r, decide (lo ≤ n ∧ n ≤ hi) = r := ⟨_, rfl⟩
  rw [HR]
  by_cases h1 : lo ≤ n
  · by_cases h2 : n ≤ hi
    · have H := Lib.hid (HR.symm.trans (decide_eq_true (And.intro h1 h2)))
      clear HR
      go_enter Tryz.func178, Tryz.ntmps178
      go_wp2
      go_ret
      exact ⟨by rw [H.out]; rfl, rfl⟩
    · have H := Lib.hid (HR.symm.trans (decide_eq_false (fun h : lo ≤ n ∧ n ≤ hi => h2 h.2)))
      clear HR
      go_enter Tryz.func178, Tryz.ntmps178
      go_wp2
      go_ret
      exact ⟨by rw [H.out]; rfl, rfl⟩
  · have H := Lib.hid (HR.symm.trans (decide_eq_false (fun h : lo ≤ n ∧ n ≤ hi => h1 h.1)))
    clear HR
    go_enter Tryz.func178, Tryz.ntmps178
    go_wp2
    go_ret
    exact ⟨by rw [H.out]; rfl, rfl⟩

set_option maxRecDepth 100000 in
theorem May_c (w : World) (e : Ent) : Calls Tryz.prog 129 #[ev e] w fun x w' => x = .returned (.bool (PEnt.may e)) ∧ Below w.heap.size w w' := by
  obtain ⟨fr, boot, seq, ord, lev, stamp, data⟩ := e
  by_cases h0 : ¬ (1 ≤ fr ∧ fr ≤ 7)
  · have HM := Lib.hid (show PEnt.may ⟨fr, boot, seq, ord, lev, stamp, data⟩ = false from decide_eq_false (fun h => h0 h.1))
    have D0 := Lib.hid (decide_eq_false h0)
    clear h0
    show Calls _ _ #[.agg #[.int .i64 fr, .int .i64 boot, .int .i64 seq, .int .i64 ord, .int .i64 lev, .int .i64 stamp, .string data]] _ _
    go_enter Tryz.func129, Tryz.ntmps129
    go_wp2_with fail
    refine (isIn_c _ fr 1 7).mono ?_
    rw [D0.out]
    rintro e w1 ⟨rfl, rfl⟩
    go_wp2_with fail
    go_ret
    exact ⟨by rw [HM.out]; rfl, (Below.refl _ _).alloc (Nat.le_refl _) _⟩
  replace h0 := Decidable.of_not_not h0
  by_cases h1 : ¬ (1 ≤ boot ∧ boot ≤ 1099511627776)
  · have HM := Lib.hid (show PEnt.may ⟨fr, boot, seq, ord, lev, stamp, data⟩ = false from decide_eq_false (fun h => h1 h.2.1))
    have D0 := Lib.hid (decide_eq_true h0)
    have D1 := Lib.hid (decide_eq_false h1)
    clear h0 h1
    show Calls _ _ #[.agg #[.int .i64 fr, .int .i64 boot, .int .i64 seq, .int .i64 ord, .int .i64 lev, .int .i64 stamp, .string data]] _ _
    go_enter Tryz.func129, Tryz.ntmps129
    go_wp2_with fail
    refine (isIn_c _ fr 1 7).mono ?_
    rw [D0.out]
    rintro e w1 ⟨rfl, rfl⟩
    go_wp2_with fail
    refine (isIn_c _ boot 1 1099511627776).mono ?_
    rw [D1.out]
    rintro e w1 ⟨rfl, rfl⟩
    go_wp2_with fail
    go_ret
    exact ⟨by rw [HM.out]; rfl, (Below.refl _ _).alloc (Nat.le_refl _) _⟩
  replace h1 := Decidable.of_not_not h1
  by_cases h2 : ¬ (1 ≤ seq ∧ seq ≤ 1099511627776)
  · have HM := Lib.hid (show PEnt.may ⟨fr, boot, seq, ord, lev, stamp, data⟩ = false from decide_eq_false (fun h => h2 h.2.2.1))
    have D0 := Lib.hid (decide_eq_true h0)
    have D1 := Lib.hid (decide_eq_true h1)
    have D2 := Lib.hid (decide_eq_false h2)
    clear h0 h1 h2
    show Calls _ _ #[.agg #[.int .i64 fr, .int .i64 boot, .int .i64 seq, .int .i64 ord, .int .i64 lev, .int .i64 stamp, .string data]] _ _
    go_enter Tryz.func129, Tryz.ntmps129
    go_wp2_with fail
    refine (isIn_c _ fr 1 7).mono ?_
    rw [D0.out]
    rintro e w1 ⟨rfl, rfl⟩
    go_wp2_with fail
    refine (isIn_c _ boot 1 1099511627776).mono ?_
    rw [D1.out]
    rintro e w1 ⟨rfl, rfl⟩
    go_wp2_with fail
    refine (isIn_c _ seq 1 1099511627776).mono ?_
    rw [D2.out]
    rintro e w1 ⟨rfl, rfl⟩
    go_wp2_with fail
    go_ret
    exact ⟨by rw [HM.out]; rfl, (Below.refl _ _).alloc (Nat.le_refl _) _⟩
  replace h2 := Decidable.of_not_not h2
  by_cases h3 : ¬ (0 ≤ ord ∧ ord ≤ 2)
  · have HM := Lib.hid (show PEnt.may ⟨fr, boot, seq, ord, lev, stamp, data⟩ = false from decide_eq_false (fun h => h3 h.2.2.2.1))
    have D0 := Lib.hid (decide_eq_true h0)
    have D1 := Lib.hid (decide_eq_true h1)
    have D2 := Lib.hid (decide_eq_true h2)
    have D3 := Lib.hid (decide_eq_false h3)
    clear h0 h1 h2 h3
    show Calls _ _ #[.agg #[.int .i64 fr, .int .i64 boot, .int .i64 seq, .int .i64 ord, .int .i64 lev, .int .i64 stamp, .string data]] _ _
    go_enter Tryz.func129, Tryz.ntmps129
    go_wp2_with fail
    refine (isIn_c _ fr 1 7).mono ?_
    rw [D0.out]
    rintro e w1 ⟨rfl, rfl⟩
    go_wp2_with fail
    refine (isIn_c _ boot 1 1099511627776).mono ?_
    rw [D1.out]
    rintro e w1 ⟨rfl, rfl⟩
    go_wp2_with fail
    refine (isIn_c _ seq 1 1099511627776).mono ?_
    rw [D2.out]
    rintro e w1 ⟨rfl, rfl⟩
    go_wp2_with fail
    refine (isIn_c _ ord 0 2).mono ?_
    rw [D3.out]
    rintro e w1 ⟨rfl, rfl⟩
    go_wp2_with fail
    go_ret
    exact ⟨by rw [HM.out]; rfl, (Below.refl _ _).alloc (Nat.le_refl _) _⟩
  replace h3 := Decidable.of_not_not h3
  by_cases h4 : ¬ (0 ≤ lev ∧ lev ≤ 2)
  · have HM := Lib.hid (show PEnt.may ⟨fr, boot, seq, ord, lev, stamp, data⟩ = false from decide_eq_false (fun h => h4 h.2.2.2.2.1))
    have D0 := Lib.hid (decide_eq_true h0)
    have D1 := Lib.hid (decide_eq_true h1)
    have D2 := Lib.hid (decide_eq_true h2)
    have D3 := Lib.hid (decide_eq_true h3)
    have D4 := Lib.hid (decide_eq_false h4)
    clear h0 h1 h2 h3 h4
    show Calls _ _ #[.agg #[.int .i64 fr, .int .i64 boot, .int .i64 seq, .int .i64 ord, .int .i64 lev, .int .i64 stamp, .string data]] _ _
    go_enter Tryz.func129, Tryz.ntmps129
    go_wp2_with fail
    refine (isIn_c _ fr 1 7).mono ?_
    rw [D0.out]
    rintro e w1 ⟨rfl, rfl⟩
    go_wp2_with fail
    refine (isIn_c _ boot 1 1099511627776).mono ?_
    rw [D1.out]
    rintro e w1 ⟨rfl, rfl⟩
    go_wp2_with fail
    refine (isIn_c _ seq 1 1099511627776).mono ?_
    rw [D2.out]
    rintro e w1 ⟨rfl, rfl⟩
    go_wp2_with fail
    refine (isIn_c _ ord 0 2).mono ?_
    rw [D3.out]
    rintro e w1 ⟨rfl, rfl⟩
    go_wp2_with fail
    refine (isIn_c _ lev 0 2).mono ?_
    rw [D4.out]
    rintro e w1 ⟨rfl, rfl⟩
    go_wp2_with fail
    go_ret
    exact ⟨by rw [HM.out]; rfl, (Below.refl _ _).alloc (Nat.le_refl _) _⟩
  replace h4 := Decidable.of_not_not h4
  by_cases h5 : ¬ (0 ≤ stamp ∧ stamp ≤ 1099511627776)
  · have HM := Lib.hid (show PEnt.may ⟨fr, boot, seq, ord, lev, stamp, data⟩ = false from decide_eq_false (fun h => h5 h.2.2.2.2.2.1))
    have D0 := Lib.hid (decide_eq_true h0)
    have D1 := Lib.hid (decide_eq_true h1)
    have D2 := Lib.hid (decide_eq_true h2)
    have D3 := Lib.hid (decide_eq_true h3)
    have D4 := Lib.hid (decide_eq_true h4)
    have D5 := Lib.hid (decide_eq_false h5)
    clear h0 h1 h2 h3 h4 h5
    show Calls _ _ #[.agg #[.int .i64 fr, .int .i64 boot, .int .i64 seq, .int .i64 ord, .int .i64 lev, .int .i64 stamp, .string data]] _ _
    go_enter Tryz.func129, Tryz.ntmps129
    go_wp2_with fail
    refine (isIn_c _ fr 1 7).mono ?_
    rw [D0.out]
    rintro e w1 ⟨rfl, rfl⟩
    go_wp2_with fail
    refine (isIn_c _ boot 1 1099511627776).mono ?_
    rw [D1.out]
    rintro e w1 ⟨rfl, rfl⟩
    go_wp2_with fail
    refine (isIn_c _ seq 1 1099511627776).mono ?_
    rw [D2.out]
    rintro e w1 ⟨rfl, rfl⟩
    go_wp2_with fail
    refine (isIn_c _ ord 0 2).mono ?_
    rw [D3.out]
    rintro e w1 ⟨rfl, rfl⟩
    go_wp2_with fail
    refine (isIn_c _ lev 0 2).mono ?_
    rw [D4.out]
    rintro e w1 ⟨rfl, rfl⟩
    go_wp2_with fail
    refine (isIn_c _ stamp 0 1099511627776).mono ?_
    rw [D5.out]
    rintro e w1 ⟨rfl, rfl⟩
    go_wp2_with fail
    go_ret
    exact ⟨by rw [HM.out]; rfl, (Below.refl _ _).alloc (Nat.le_refl _) _⟩
  replace h5 := Decidable.of_not_not h5
  by_cases h6 : ¬ (data.size ≤ 16)
  · have HM := Lib.hid (show PEnt.may ⟨fr, boot, seq, ord, lev, stamp, data⟩ = false from decide_eq_false (fun h => h6 h.2.2.2.2.2.2))
    have D0 := Lib.hid (decide_eq_true h0)
    have D1 := Lib.hid (decide_eq_true h1)
    have D2 := Lib.hid (decide_eq_true h2)
    have D3 := Lib.hid (decide_eq_true h3)
    have D4 := Lib.hid (decide_eq_true h4)
    have D5 := Lib.hid (decide_eq_true h5)
    clear h0 h1 h2 h3 h4 h5
    show Calls _ _ #[.agg #[.int .i64 fr, .int .i64 boot, .int .i64 seq, .int .i64 ord, .int .i64 lev, .int .i64 stamp, .string data]] _ _
    go_enter Tryz.func129, Tryz.ntmps129
    go_wp2_with fail
    refine (isIn_c _ fr 1 7).mono ?_
    rw [D0.out]
    rintro e w1 ⟨rfl, rfl⟩
    go_wp2_with fail
    refine (isIn_c _ boot 1 1099511627776).mono ?_
    rw [D1.out]
    rintro e w1 ⟨rfl, rfl⟩
    go_wp2_with fail
    refine (isIn_c _ seq 1 1099511627776).mono ?_
    rw [D2.out]
    rintro e w1 ⟨rfl, rfl⟩
    go_wp2_with fail
    refine (isIn_c _ ord 0 2).mono ?_
    rw [D3.out]
    rintro e w1 ⟨rfl, rfl⟩
    go_wp2_with fail
    refine (isIn_c _ lev 0 2).mono ?_
    rw [D4.out]
    rintro e w1 ⟨rfl, rfl⟩
    go_wp2_with fail
    refine (isIn_c _ stamp 0 1099511627776).mono ?_
    rw [D5.out]
    rintro e w1 ⟨rfl, rfl⟩
    go_wp2_with fail
    go_ret
    exact ⟨by rw [HM.out]; show Ending.returned (.bool (decide ((data.size : Int) ≤ 16))) = _; rw [decide_eq_false (by omega)], (Below.refl _ _).alloc (Nat.le_refl _) _⟩
  replace h6 := Decidable.of_not_not h6
  have HM := Lib.hid (show PEnt.may ⟨fr, boot, seq, ord, lev, stamp, data⟩ = true from decide_eq_true ⟨h0, h1, h2, h3, h4, h5, h6⟩)
  have D0 := Lib.hid (decide_eq_true h0)
  have D1 := Lib.hid (decide_eq_true h1)
  have D2 := Lib.hid (decide_eq_true h2)
  have D3 := Lib.hid (decide_eq_true h3)
  have D4 := Lib.hid (decide_eq_true h4)
  have D5 := Lib.hid (decide_eq_true h5)
  clear h0 h1 h2 h3 h4 h5
  show Calls _ _ #[.agg #[.int .i64 fr, .int .i64 boot, .int .i64 seq, .int .i64 ord, .int .i64 lev, .int .i64 stamp, .string data]] _ _
  go_enter Tryz.func129, Tryz.ntmps129
  go_wp2_with fail
  refine (isIn_c _ fr 1 7).mono ?_
  rw [D0.out]
  rintro e w1 ⟨rfl, rfl⟩
  go_wp2_with fail
  refine (isIn_c _ boot 1 1099511627776).mono ?_
  rw [D1.out]
  rintro e w1 ⟨rfl, rfl⟩
  go_wp2_with fail
  refine (isIn_c _ seq 1 1099511627776).mono ?_
  rw [D2.out]
  rintro e w1 ⟨rfl, rfl⟩
  go_wp2_with fail
  refine (isIn_c _ ord 0 2).mono ?_
  rw [D3.out]
  rintro e w1 ⟨rfl, rfl⟩
  go_wp2_with fail
  refine (isIn_c _ lev 0 2).mono ?_
  rw [D4.out]
  rintro e w1 ⟨rfl, rfl⟩
  go_wp2_with fail
  refine (isIn_c _ stamp 0 1099511627776).mono ?_
  rw [D5.out]
  rintro e w1 ⟨rfl, rfl⟩
  go_wp2_with fail
  go_ret
  exact ⟨by rw [HM.out]; show Ending.returned (.bool (decide ((data.size : Int) ≤ 16))) = _; rw [decide_eq_true (by omega)], (Below.refl _ _).alloc (Nat.le_refl _) _⟩
end Go.Proofs.YtacipjdaiglnjaaGreatDoor

/- Contracts of the log's Len, At, isEarly, Has, canAdd, Add. -/
namespace Go.Proofs.YtacipjdaiglnjaaGreatDoor
open Go.RowKit

theorem Len_c (w : World) (g : Nat) (F : List Nat) (L : List Ent) (h : Lg w g F L) :
    Calls Tryz.prog 144 #[.pointer (some ⟨g, 0, none⟩)] w fun x w' => x = .returned (.int .i64 L.length) ∧ w = w' := by
  obtain ⟨A, c, d, -, -⟩ := h.open
  clear h
  go_enter Tryz.func144, Tryz.ntmps144
  go_wp2_with fail
  go_ret
  exact ⟨rfl, rfl⟩

set_option maxHeartbeats 4000000 in
set_option maxRecDepth 100000 in
/-- At a place that there is. -/
theorem At_in (w : World) (g : Nat) (F : List Nat) (L : List Ent) (h : Lg w g F L) (i : Nat) (e : Ent) (he : L[i]? = some e) :
    Calls Tryz.prog 162 #[.pointer (some ⟨g, 0, none⟩), .int .i64 ((i : Int) + 1)] w fun x w' => x = .returned (.tuple #[ev e, .bool true]) ∧ Below w.heap.size w w' := by
  have hlen : i < L.length := (List.getElem?_eq_some_iff.1 he).1
  have h60 := h.le
  have K1 := Lib.hid (h.alloc (.cells #[.int .i64 0, .int .i64 0, .int .i64 0, .int .i64 0, .int .i64 0, .int .i64 0, .string ⟨#[]⟩] 93))
  have HE := Lib.hid he
  have b0 := (Below.refl w.heap.size w).alloc (Nat.le_refl _) (.cells #[.int .i64 0, .int .i64 0, .int .i64 0, .int .i64 0, .int .i64 0, .int .i64 0, .string ⟨#[]⟩] 93)
  have Z := Blk.newEnt w 93 zeroE
  have hZ : Blk (w.alloc (.cells #[.int .i64 0, .int .i64 0, .int .i64 0, .int .i64 0, .int .i64 0, .int .i64 0, .string ⟨#[]⟩] 93)) w.heap.size 93 (ecs zeroE) := Z
  have j1 : ¬ ((i : Int) + 1 < 1) := by omega
  have j2 : ¬ ((L.length : Int) < (i : Int) + 1) := by omega
  have j3 : ((i : Int) + 1 - 1) = (i : Int) := by omega
  clear he h Z
  go_enter Tryz.func162, Tryz.ntmps162
  go_wp2_with fail
  refine (Len_c (w.alloc (.cells #[.int .i64 0, .int .i64 0, .int .i64 0, .int .i64 0, .int .i64 0, .int .i64 0, .string ⟨#[]⟩] 93)) g F L K1.out).mono ?_
  rintro x w1 ⟨rfl, rfl⟩
  obtain ⟨A, c, d, R, -⟩ := K1.out.open
  obtain ⟨b, o, x, rfl, hb, he, -, d0, d1, d2, d3, d4, d5, d6⟩ := R.ent hlen
  obtain rfl : e = x := by have := HE.out.symm.trans he; exact Option.some.inj this
  have s1 : (w.alloc (.cells #[.int .i64 0, .int .i64 0, .int .i64 0, .int .i64 0, .int .i64 0, .int .i64 0, .string ⟨#[]⟩] 93)).heap.size = w.heap.size + 1 := by simp
  clear R he HE
  have Zr := hZ.row #[.int .i64 e.fr, .int .i64 e.boot, .int .i64 e.seq, .int .i64 e.ord, .int .i64 e.lev, .int .i64 e.stamp, .string e.data]
  have BR := grown_row (w.alloc (.cells #[.int .i64 0, .int .i64 0, .int .i64 0, .int .i64 0, .int .i64 0, .int .i64 0, .string ⟨#[]⟩] 93)) w.heap.size #[.int .i64 e.fr, .int .i64 e.boot, .int .i64 e.seq, .int .i64 e.ord, .int .i64 e.lev, .int .i64 e.stamp, .string e.data]
  have B2 := Lib.hid (b0.trans (grown_below BR (Nat.le_refl _) b0.size))
  have Z2 := Lib.hid Zr
  clear Zr BR
  go_wp2_with ((with_reducible show wpList _ _ _ ((⟨none, Op.store 93 (.tmp 4) _, _, _, _, _⟩ : Oper) :: _) _ _); go_must (refine wpList_store_row rfl 93 (.tmp 4) _ rfl w.heap.size _ rfl rfl _ _ hZ (by kernel_rfl) (by rfl) (by kernel_rfl) ?_))
  refine bodyPost_ret (v := .tuple #[ev e, .bool true]) (results_rowB (p := 4) (u := 5) rfl _ _ w.heap.size _ _ _ _ rfl rfl Z2.out Tryz.underlying93 rfl (by kernel_rfl)) rfl ⟨rfl, B2.out⟩

set_option maxHeartbeats 4000000 in
set_option maxRecDepth 100000 in
/-- At no place. -/
theorem At_out (w : World) (g : Nat) (F : List Nat) (L : List Ent) (h : Lg w g F L) (k : Int) (hk : k < 1 ∨ (L.length : Int) < k) :
    Calls Tryz.prog 162 #[.pointer (some ⟨g, 0, none⟩), .int .i64 k] w fun x w' => x = .returned (.tuple #[ev zeroE, .bool false]) ∧ Below w.heap.size w w' := by
  have K1 := Lib.hid (h.alloc (.cells #[.int .i64 0, .int .i64 0, .int .i64 0, .int .i64 0, .int .i64 0, .int .i64 0, .string ⟨#[]⟩] 93))
  have b0 := (Below.refl w.heap.size w).alloc (Nat.le_refl _) (.cells #[.int .i64 0, .int .i64 0, .int .i64 0, .int .i64 0, .int .i64 0, .int .i64 0, .string ⟨#[]⟩] 93)
  have Z := Blk.newEnt w 93 zeroE
  have hZ : Blk (w.alloc (.cells #[.int .i64 0, .int .i64 0, .int .i64 0, .int .i64 0, .int .i64 0, .int .i64 0, .string ⟨#[]⟩] 93)) w.heap.size 93 (ecs zeroE) := Z
  have Zr := hZ.row #[.int .i64 0, .int .i64 0, .int .i64 0, .int .i64 0, .int .i64 0, .int .i64 0, .string ⟨#[]⟩]
  have BR := grown_row (w.alloc (.cells #[.int .i64 0, .int .i64 0, .int .i64 0, .int .i64 0, .int .i64 0, .int .i64 0, .string ⟨#[]⟩] 93)) w.heap.size #[.int .i64 0, .int .i64 0, .int .i64 0, .int .i64 0, .int .i64 0, .int .i64 0, .string ⟨#[]⟩]
  have B2 := Lib.hid (b0.trans (grown_below BR (Nat.le_refl _) b0.size))
  have Z2 := Lib.hid Zr
  clear h Z Zr BR
  by_cases h1 : k < 1
  · clear hk
    go_enter Tryz.func162, Tryz.ntmps162
    go_wp2_with ((with_reducible show wpList _ _ _ ((⟨none, Op.store 93 (.tmp 4) _, _, _, _, _⟩ : Oper) :: _) _ _); go_must (refine wpList_store_row rfl 93 (.tmp 4) _ rfl w.heap.size _ rfl rfl _ _ hZ (by kernel_rfl) (by rfl) (by kernel_rfl) ?_))
    refine bodyPost_ret (v := .tuple #[ev zeroE, .bool false]) (results_rowB (p := 4) (u := 5) rfl _ _ w.heap.size _ _ _ _ rfl rfl Z2.out Tryz.underlying93 rfl (by kernel_rfl)) rfl ⟨rfl, B2.out⟩
  · have h2 : (L.length : Int) < k := by omega
    clear hk
    go_enter Tryz.func162, Tryz.ntmps162
    go_wp2_with fail
    refine (Len_c (w.alloc (.cells #[.int .i64 0, .int .i64 0, .int .i64 0, .int .i64 0, .int .i64 0, .int .i64 0, .string ⟨#[]⟩] 93)) g F L K1.out).mono ?_
    rintro x w1 ⟨rfl, rfl⟩
    go_wp2_with ((with_reducible show wpList _ _ _ ((⟨none, Op.store 93 (.tmp 4) _, _, _, _, _⟩ : Oper) :: _) _ _); go_must (refine wpList_store_row rfl 93 (.tmp 4) _ rfl w.heap.size _ rfl rfl _ _ hZ (by kernel_rfl) (by rfl) (by kernel_rfl) ?_))
    refine bodyPost_ret (v := .tuple #[ev zeroE, .bool false]) (results_rowB (p := 4) (u := 5) rfl _ _ w.heap.size _ _ _ _ rfl rfl Z2.out Tryz.underlying93 rfl (by kernel_rfl)) rfl ⟨rfl, B2.out⟩

set_option maxHeartbeats 4000000 in
set_option maxRecDepth 100000 in
theorem isEarly_c (w : World) (g : Nat) (F : List Nat) (L : List Ent) (h : Lg w g F L) (e : Ent) :
    Calls Tryz.prog 182 #[.pointer (some ⟨g, 0, none⟩), ev e] w fun x w' => x = .returned (.bool (PLog.early L e)) ∧ Below w.heap.size w w' := by
  have b0 := (Below.refl w.heap.size w).alloc (Nat.le_refl _) (.cells #[.int .i64 e.fr, .int .i64 e.boot, .int .i64 e.seq, .int .i64 e.ord, .int .i64 e.lev, .int .i64 e.stamp, .string e.data] 93)
  have K := Blk.newEnt w 93 e
  have H1 := h.alloc (.cells #[.int .i64 e.fr, .int .i64 e.boot, .int .i64 e.seq, .int .i64 e.ord, .int .i64 e.lev, .int .i64 e.stamp, .string e.data] 93)
  obtain ⟨A, c, d, -, -⟩ := H1.open
  clear h
  show Calls _ _ #[_, .agg #[.int .i64 e.fr, .int .i64 e.boot, .int .i64 e.seq, .int .i64 e.ord, .int .i64 e.lev, .int .i64 e.stamp, .string e.data]] _ _
  go_enter Tryz.func182, Tryz.ntmps182
  go_wp2_with fail
  generalize (w.alloc (.cells #[.int .i64 e.fr, .int .i64 e.boot, .int .i64 e.seq, .int .i64 e.ord, .int .i64 e.lev, .int .i64 e.stamp, .string e.data] 93)) = w1 at *
  have B1 := Lib.hid b0
  have K1 := Lib.hid K
  have HL := Lib.hid H1
  clear d b0 K H1
  by_cases hn : L.length = 0
  · have e0 : L = [] := List.eq_nil_of_length_eq_zero hn
    subst e0
    refine (At_out w1 g F [] HL.out _ (by simp)).mono ?_
    rintro x w2 ⟨rfl, b2⟩
    have b3 : Below w1.heap.size w1 (w2.alloc (.cells #[.int .i64 0, .int .i64 0, .int .i64 0, .int .i64 0, .int .i64 0, .int .i64 0, .string ⟨#[]⟩] 93)) := b2.alloc b2.size _
    simp only [ev, zeroE]
    go_wp2_with fail
    go_ret
    exact ⟨rfl, B1.out.trans (b3.mono B1.out.size)⟩
  · obtain ⟨i, hi⟩ : ∃ i, L.length = i + 1 := ⟨L.length - 1, by omega⟩
    obtain ⟨y, hy⟩ : ∃ y, L[i]? = some y := ⟨L[i], List.getElem?_eq_getElem (by omega)⟩
    have HE := Lib.hid (show PLog.early L e = decide (e.stamp < y.stamp) by
      unfold PLog.early
      rw [List.getLast?_eq_getElem?, hi, Nat.add_sub_cancel, hy])
    rw [hi]
    refine (show Calls Tryz.prog _ #[_, .int .i64 ((i + 1 : Nat) : Int)] w1 _ from (Int.natCast_succ i ▸ At_in w1 g F L HL.out i y hy)).mono ?_
    clear hy hi hn
    rintro x w2 ⟨rfl, b2⟩
    have b3 : Below w1.heap.size w1 (w2.alloc (.cells #[.int .i64 y.fr, .int .i64 y.boot, .int .i64 y.seq, .int .i64 y.ord, .int .i64 y.lev, .int .i64 y.stamp, .string y.data] 93)) := b2.alloc b2.size _
    have K2 := (K1.out.past b2).alloc (.cells #[.int .i64 y.fr, .int .i64 y.boot, .int .i64 y.seq, .int .i64 y.ord, .int .i64 y.lev, .int .i64 y.stamp, .string y.data] 93)
    have Ky := Blk.newEnt w2 93 y
    have c1 := K2.cell (i := 5) rfl
    have c2 := Ky.cell (i := 5) rfl
    clear K2 Ky b2
    simp only [ev]
    have B3 := Lib.hid (B1.out.trans (b3.mono B1.out.size))
    clear b3
    by_cases hs : e.stamp < y.stamp
    · have HF := Lib.hid (HE.out.trans (decide_eq_true hs))
      go_wp2_with fail
      go_ret
      exact ⟨by rw [HF.out]; rfl, B3.out⟩
    · have HF := Lib.hid (HE.out.trans (decide_eq_false hs))
      go_wp2_with fail
      go_ret
      exact ⟨by rw [HF.out]; rfl, B3.out⟩

set_option maxHeartbeats 4000000 in
set_option maxRecDepth 100000 in
theorem Has_c (w : World) (g : Nat) (F : List Nat) (L : List Ent) (h : Lg w g F L) (e : Ent) :
    Calls Tryz.prog 183 #[.pointer (some ⟨g, 0, none⟩), ev e] w fun x w' => x = .returned (.bool (PLog.has L e)) ∧ Below w.heap.size w w' := by
  have b0 := (Below.refl w.heap.size w).alloc (Nat.le_refl _) (.cells #[.int .i64 e.fr, .int .i64 e.boot, .int .i64 e.seq, .int .i64 e.ord, .int .i64 e.lev, .int .i64 e.stamp, .string e.data] 93)
  have K := Blk.newEnt w 93 e
  have H1 := h.alloc (.cells #[.int .i64 e.fr, .int .i64 e.boot, .int .i64 e.seq, .int .i64 e.ord, .int .i64 e.lev, .int .i64 e.stamp, .string e.data] 93)
  obtain ⟨A, c, d, R, -⟩ := H1.open
  have eg : ∀ args w, (callFunc 205 args).run Tryz.prog w = .ok (.enter 205 args) w := enters_of Tryz.func205 (by kernel_rfl) rfl
  clear h H1
  show Calls _ _ #[_, .agg #[.int .i64 e.fr, .int .i64 e.boot, .int .i64 e.seq, .int .i64 e.ord, .int .i64 e.lev, .int .i64 e.stamp, .string e.data]] _ _
  go_enter Tryz.func183, Tryz.ntmps183
  go_wp2_with fail
  generalize (w.alloc (.cells #[.int .i64 e.fr, .int .i64 e.boot, .int .i64 e.seq, .int .i64 e.ord, .int .i64 e.lev, .int .i64 e.stamp, .string e.data] 93)) = w1 at *
  have B1 := Lib.hid b0
  have K1 := Lib.hid K
  have R1 := Lib.hid R
  clear d b0 K R
  refine (containsE_c w1 _ A c L.length L R1.out 205 #[.pointer (some ⟨w.heap.size, 0, none⟩)] (fun x => PEnt.same x e) eg (fun W x hb => hasClose_c W w.heap.size x e (K1.out.past hb))).mono ?_
  rintro x w2 ⟨rfl, b2⟩
  go_wp2_with fail
  go_ret
  exact ⟨rfl, B1.out.trans (b2.mono B1.out.size)⟩

set_option maxHeartbeats 4000000 in
set_option maxRecDepth 100000 in
theorem canAdd_c (w : World) (g : Nat) (F : List Nat) (L : List Ent) (h : Lg w g F L) (e : Ent) :
    Calls Tryz.prog 136 #[.pointer (some ⟨g, 0, none⟩), ev e] w fun x w' => x = .returned (.bool (PLog.can L e)) ∧ Below w.heap.size w w' := by
  have b0 := (Below.refl w.heap.size w).alloc (Nat.le_refl _) (.cells #[.int .i64 e.fr, .int .i64 e.boot, .int .i64 e.seq, .int .i64 e.ord, .int .i64 e.lev, .int .i64 e.stamp, .string e.data] 93)
  have K := Blk.newEnt w 93 e
  have H1 := h.alloc (.cells #[.int .i64 e.fr, .int .i64 e.boot, .int .i64 e.seq, .int .i64 e.ord, .int .i64 e.lev, .int .i64 e.stamp, .string e.data] 93)
  have HC := Lib.hid (show PLog.can L e = (PEnt.may e && decide (L.length < 60) && !PLog.early L e && !PLog.has L e) from rfl)
  clear h
  show Calls _ _ #[_, .agg #[.int .i64 e.fr, .int .i64 e.boot, .int .i64 e.seq, .int .i64 e.ord, .int .i64 e.lev, .int .i64 e.stamp, .string e.data]] _ _
  go_enter Tryz.func136, Tryz.ntmps136
  go_wp2_with fail
  generalize (w.alloc (.cells #[.int .i64 e.fr, .int .i64 e.boot, .int .i64 e.seq, .int .i64 e.ord, .int .i64 e.lev, .int .i64 e.stamp, .string e.data] 93)) = w1 at *
  have B1 := Lib.hid b0
  have K1 := Lib.hid K
  have L1 := Lib.hid H1
  clear b0 K H1
  refine (May_c w1 e).mono ?_
  cases h1 : PEnt.may e
  · have HR := Lib.hid (show PLog.can L e = false by rw [HC.out, h1]; simp)
    clear h1
    rintro x w2 ⟨rfl, b2⟩
    go_wp2_with fail
    go_ret
    exact ⟨by rw [HR.out]; rfl, B1.out.trans (b2.mono B1.out.size)⟩
  rintro x w2 ⟨rfl, b2⟩
  have B2 := Lib.hid (B1.out.trans (b2.mono B1.out.size))
  have L2 := Lib.hid (L1.out.past b2)
  have K2 := Lib.hid (K1.out.past b2)
  have HC1 := Lib.hid (show PLog.can L e = (decide (L.length < 60) && !PLog.early L e && !PLog.has L e) by rw [HC.out, h1]; simp)
  clear b2 B1 L1 K1 HC h1
  obtain ⟨A, c, d, -, -⟩ := L2.out.open
  obtain ⟨d0, d1, d2, d3, d4, d5, d6⟩ := K2.out.ent
  by_cases h2 : L.length < 60
  · have HC2 := Lib.hid (show PLog.can L e = (!PLog.early L e && !PLog.has L e) by rw [HC1.out, decide_eq_true h2]; simp)
    have j2 : (L.length : Int) < 60 := by omega
    clear HC1 h2
    go_wp2_with fail
    clear d d0 d1 d2 d3 d4 d5 d6
    refine (isEarly_c w2 g F L L2.out e).mono ?_
    cases h3 : PLog.early L e
    · have HC3 := Lib.hid (show PLog.can L e = (!PLog.has L e) by rw [HC2.out, h3]; simp)
      clear h3 HC2
      rintro x w3 ⟨rfl, b3⟩
      have B3 := Lib.hid (B2.out.trans (b3.mono B2.out.size))
      have L3 := Lib.hid (L2.out.past b3)
      have K3 := Lib.hid (K2.out.past b3)
      clear b3 B2 L2 K2
      obtain ⟨d0, d1, d2, d3, d4, d5, d6⟩ := K3.out.ent
      go_wp2_with fail
      clear d0 d1 d2 d3 d4 d5 d6
      refine (Has_c w3 g F L L3.out e).mono ?_
      cases h4 : PLog.has L e
      · have HR := Lib.hid (HC3.out.trans (by rw [h4]))
        clear h4
        rintro x w4 ⟨rfl, b4⟩
        go_wp2_with fail
        go_ret
        exact ⟨by rw [HR.out]; rfl, B3.out.trans (b4.mono B3.out.size)⟩
      · have HR := Lib.hid (HC3.out.trans (by rw [h4]))
        clear h4
        rintro x w4 ⟨rfl, b4⟩
        go_wp2_with fail
        go_ret
        exact ⟨by rw [HR.out]; rfl, B3.out.trans (b4.mono B3.out.size)⟩
    · have HR := Lib.hid (show PLog.can L e = false by rw [HC2.out, h3]; simp)
      clear h3
      rintro x w3 ⟨rfl, b3⟩
      go_wp2_with fail
      go_ret
      exact ⟨by rw [HR.out]; rfl, B2.out.trans (b3.mono B2.out.size)⟩
  · have HR := Lib.hid (show PLog.can L e = false by rw [HC1.out, decide_eq_false h2]; simp)
    have j2 : ¬ (L.length : Int) < 60 := by omega
    clear h2 d0 d1 d2 d3 d4 d5 d6
    go_wp2_with fail
    go_ret
    exact ⟨by rw [HR.out]; rfl, B2.out⟩

set_option maxHeartbeats 8000000 in
set_option maxRecDepth 100000 in
theorem Add_c (w : World) (g : Nat) (F : List Nat) (L : List Ent) (h : Lg w g F L) (e : Ent) :
    Calls Tryz.prog 85 #[.pointer (some ⟨g, 0, none⟩), ev e] w fun x w' => x = .returned (.bool (PLog.can L e)) ∧ Went w w' g F (PLog.add L e) := by
  have b0 := (Below.refl w.heap.size w).alloc (Nat.le_refl _) (.cells #[.int .i64 e.fr, .int .i64 e.boot, .int .i64 e.seq, .int .i64 e.ord, .int .i64 e.lev, .int .i64 e.stamp, .string e.data] 93)
  have K := Blk.newEnt w 93 e
  have H1 := h.alloc (.cells #[.int .i64 e.fr, .int .i64 e.boot, .int .i64 e.seq, .int .i64 e.ord, .int .i64 e.lev, .int .i64 e.stamp, .string e.data] 93)
  have H0 := Lib.hid h
  clear h
  show Calls _ _ #[_, .agg #[.int .i64 e.fr, .int .i64 e.boot, .int .i64 e.seq, .int .i64 e.ord, .int .i64 e.lev, .int .i64 e.stamp, .string e.data]] _ _
  go_enter Tryz.func85, Tryz.ntmps85
  go_wp2_with fail
  generalize (w.alloc (.cells #[.int .i64 e.fr, .int .i64 e.boot, .int .i64 e.seq, .int .i64 e.ord, .int .i64 e.lev, .int .i64 e.stamp, .string e.data] 93)) = w1 at *
  have B1 := Lib.hid b0
  have K1 := Lib.hid K
  have L1 := Lib.hid H1
  clear b0 K H1
  refine (canAdd_c w1 g F L L1.out e).mono ?_
  cases hc : PLog.can L e
  · have HADD := Lib.hid (show PLog.add L e = L by unfold PLog.add; rw [hc]; rfl)
    have HQ := Lib.hid hc
    clear hc
    rintro x w2 ⟨rfl, b2⟩
    have B2 := Lib.hid (B1.out.trans (b2.mono B1.out.size))
    clear b2
    go_wp2_with fail
    go_ret
    exact ⟨by rw [HQ.out]; rfl, by rw [HADD.out]; exact Went.same H0.out B2.out⟩
  have HADD := Lib.hid (show PLog.add L e = L ++ [e] by unfold PLog.add; rw [hc]; rfl)
  have HL60 := Lib.hid (PLog.can_lt hc)
  have HQ := Lib.hid hc
  clear hc
  rintro x w3 ⟨rfl, b2⟩
  have B3 := Lib.hid (show Below w.heap.size w w3.drew from (B1.out.trans (b2.mono B1.out.size)).drew)
  have L3 := L1.out.past b2
  have K3 := K1.out.past b2
  obtain ⟨A, c, hB, hO, rfl⟩ := L3.ex
  clear b2 B1 K1 L1 L3 H0
  go_wp2_with fail
  have HD := Lib.hid (show w3.drew.cell? ⟨g, 0, none⟩ = some (.slice A L.length c) from hB.cell (i := 0) rfl)
  have HK := Lib.hid (show w3.drew.rangeAt w.heap.size 0 (ecs e) from K3.range)
  have HBA := Lib.hid (show Below w3.drew.heap.size w3.drew (w3.drew.alloc (.cells (ecs e).toArray 93)) from (Below.refl _ _).alloc (Nat.le_refl _) _)
  have HB := Lib.hid (show Blk (w3.drew.alloc (.cells (ecs e).toArray 93)) g 131 [.slice A L.length c] from Blk.alloc (w := w3.drew) hB _)
  have HO := Lib.hid (show Ow (w3.drew.alloc (.cells (ecs e).toArray 93)) 0 93 7 A L.length c (els L) from Ow.past (w := w3.drew) hO HBA.out)
  have HG := Lib.hid (show bk A ≠ some g from hO.ne hB (by decide))
  have HD2 := Lib.hid (HB.out.cell (i := 0) rfl)
  have HN := Lib.hid (Rd.new w3.drew (ecs e).toArray 93 7 1 rfl (by unfold maxLen; omega))
  clear hB hO K3
  refine Hb.beginB (B := 0) ?_
  refine Hb.take (v := .pointer (some ⟨g, 0, none⟩)) 0 13 rfl ?_ (fun _ _ => rfl)
  refine Hb.take (v := .pointer (some ⟨g, 0, none⟩)) 1 14 rfl ?_ (fun _ _ => rfl)
  refine Hb.take (v := .pointer (some ⟨g, 0, none⟩)) 2 15 rfl ?_ (fun w' hw' => by go_simp)
  refine Hb.take (v := .pointer (some ⟨g, 0, none⟩)) 3 16 rfl ?_ (fun w' hw' => by go_simp)
  refine Hb.two 4 5 ?_ ?_
  · refine Hb.pick 4 (some 17) rfl ?_
    refine wpList_runTo' rfl (.slice A L.length c) _ (run_load1 HD.out rfl) ?_
    refine Hb.next (B' := 0) (Below.refl _ _) (Nat.le_refl _) ?_
    refine Hb.only 5 (some 18) rfl ?_
    refine wpList_runTo' rfl (ev e) _ (run_loadE HK.out rfl) ?_
    refine Hb.next (B' := 0) (Below.refl _ _) (Nat.le_refl _) ?_
    refine Hb.only 6 (some 19) rfl ?_
    refine wpList_buildE rfl (.tmp 18) rfl e rfl ?_
    refine Hb.next (B' := 0) (HBA.out.mono (Nat.zero_le _)) (Nat.le_refl _) ?_ (by simp only [Act.put, List.setIfInBounds_toArray, List.set_cons_succ, List.set_cons_zero]; rfl)
    refine Hb.only 7 (some 20) rfl ?_
    refine wpList_app2 rfl (.tmp 17) (.tmp 19) 29 rfl 0 93 _ 7 64 Tryz.underlying29 ent_info rfl (by omega) A L.length c (els L) rfl HO.out _ _ 1 1 (ecs e) rfl HN.out (ecs_one e) (by have := HL60.out; unfold maxLen; omega) (by have := HL60.out; omega) (Nat.zero_le _) ?_
    intro A2 c2 w5 O5 g5 h5
    refine Hb.next (B' := 0) (grown0 g5) (Nat.le_refl _) ?_ (by simp only [Act.put, List.setIfInBounds_toArray, List.set_cons_succ, List.set_cons_zero]; rfl)
    have K5 : Blk w5 g 131 [.slice A L.length c] := HB.out.touch (Touch.of_bk g5) (fun hm => HG.out (mem_bl.1 hm))
    have W5 := Lib.hid (Lg.app HB.out HO.out HL60.out g5 h5 O5)
    clear O5 h5
    refine Hb.take (v := .pointer (some ⟨g, 0, none⟩)) 8 21 rfl ?_ (fun w' hw' => by go_simp)
    refine Hb.take (v := .pointer (some ⟨g, 0, none⟩)) 9 22 rfl ?_ (fun w' hw' => by go_simp)
    refine Hb.only 10 none rfl ?_
    refine wpList_store_oneTo rfl 29 (.tmp 22) (.tmp 20) rfl rfl g (.slice A2 (L.length + 1) c2) rfl rfl rfl 131 _ K5 (by kernel_rfl) ?_
    refine Hb.next (B' := 0) (grown0 (grown_row w5 g _)) (Nat.le_refl _) ?_ rfl
    refine Hb.done ?_
    clear K5 g5
    go_wp2_with fail
    go_ret
    exact ⟨by rw [HQ.out]; rfl, by rw [HADD.out]; exact (W5.out.behind HBA.out).behind B3.out⟩
  · refine Hb.pick 5 (some 18) rfl ?_
    refine wpList_runTo' rfl (ev e) _ (run_loadE HK.out rfl) ?_
    refine Hb.next (B' := 0) (Below.refl _ _) (Nat.le_refl _) ?_
    refine Hb.two 4 6 ?_ ?_
    · refine Hb.pick 4 (some 17) rfl ?_
      refine wpList_runTo' rfl (.slice A L.length c) _ (run_load1 HD.out rfl) ?_
      refine Hb.next (B' := 0) (Below.refl _ _) (Nat.le_refl _) ?_
      refine Hb.only 6 (some 19) rfl ?_
      refine wpList_buildE rfl (.tmp 18) rfl e rfl ?_
      refine Hb.next (B' := 0) (HBA.out.mono (Nat.zero_le _)) (Nat.le_refl _) ?_ (by simp only [Act.put, List.setIfInBounds_toArray, List.set_cons_succ, List.set_cons_zero]; rfl)
      refine Hb.only 7 (some 20) rfl ?_
      refine wpList_app2 rfl (.tmp 17) (.tmp 19) 29 rfl 0 93 _ 7 64 Tryz.underlying29 ent_info rfl (by omega) A L.length c (els L) rfl HO.out _ _ 1 1 (ecs e) rfl HN.out (ecs_one e) (by have := HL60.out; unfold maxLen; omega) (by have := HL60.out; omega) (Nat.zero_le _) ?_
      intro A2 c2 w5 O5 g5 h5
      refine Hb.next (B' := 0) (grown0 g5) (Nat.le_refl _) ?_ (by simp only [Act.put, List.setIfInBounds_toArray, List.set_cons_succ, List.set_cons_zero]; rfl)
      have K5 : Blk w5 g 131 [.slice A L.length c] := HB.out.touch (Touch.of_bk g5) (fun hm => HG.out (mem_bl.1 hm))
      have W5 := Lib.hid (Lg.app HB.out HO.out HL60.out g5 h5 O5)
      clear O5 h5
      refine Hb.take (v := .pointer (some ⟨g, 0, none⟩)) 8 21 rfl ?_ (fun w' hw' => by go_simp)
      refine Hb.take (v := .pointer (some ⟨g, 0, none⟩)) 9 22 rfl ?_ (fun w' hw' => by go_simp)
      refine Hb.only 10 none rfl ?_
      refine wpList_store_oneTo rfl 29 (.tmp 22) (.tmp 20) rfl rfl g (.slice A2 (L.length + 1) c2) rfl rfl rfl 131 _ K5 (by kernel_rfl) ?_
      refine Hb.next (B' := 0) (grown0 (grown_row w5 g _)) (Nat.le_refl _) ?_ rfl
      refine Hb.done ?_
      clear K5 g5
      go_wp2_with fail
      go_ret
      exact ⟨by rw [HQ.out]; rfl, by rw [HADD.out]; exact (W5.out.behind HBA.out).behind B3.out⟩
    · refine Hb.pick 6 (some 19) rfl ?_
      refine wpList_buildE rfl (.tmp 18) rfl e rfl ?_
      refine Hb.next (B' := 0) (HBA.out.mono (Nat.zero_le _)) (Nat.le_refl _) ?_ (by simp only [Act.put, List.setIfInBounds_toArray, List.set_cons_succ, List.set_cons_zero]; rfl)
      refine Hb.only 4 (some 17) rfl ?_
      refine wpList_runTo' rfl (.slice A L.length c) _ (run_load1 HD2.out rfl) ?_
      refine Hb.next (B' := 0) (Below.refl _ _) (Nat.le_refl _) ?_
      refine Hb.only 7 (some 20) rfl ?_
      refine wpList_app2 rfl (.tmp 17) (.tmp 19) 29 rfl 0 93 _ 7 64 Tryz.underlying29 ent_info rfl (by omega) A L.length c (els L) rfl HO.out _ _ 1 1 (ecs e) rfl HN.out (ecs_one e) (by have := HL60.out; unfold maxLen; omega) (by have := HL60.out; omega) (Nat.zero_le _) ?_
      intro A2 c2 w5 O5 g5 h5
      refine Hb.next (B' := 0) (grown0 g5) (Nat.le_refl _) ?_ (by simp only [Act.put, List.setIfInBounds_toArray, List.set_cons_succ, List.set_cons_zero]; rfl)
      have K5 : Blk w5 g 131 [.slice A L.length c] := HB.out.touch (Touch.of_bk g5) (fun hm => HG.out (mem_bl.1 hm))
      have W5 := Lib.hid (Lg.app HB.out HO.out HL60.out g5 h5 O5)
      clear O5 h5
      refine Hb.take (v := .pointer (some ⟨g, 0, none⟩)) 8 21 rfl ?_ (fun w' hw' => by go_simp)
      refine Hb.take (v := .pointer (some ⟨g, 0, none⟩)) 9 22 rfl ?_ (fun w' hw' => by go_simp)
      refine Hb.only 10 none rfl ?_
      refine wpList_store_oneTo rfl 29 (.tmp 22) (.tmp 20) rfl rfl g (.slice A2 (L.length + 1) c2) rfl rfl rfl 131 _ K5 (by kernel_rfl) ?_
      refine Hb.next (B' := 0) (grown0 (grown_row w5 g _)) (Nat.le_refl _) ?_ rfl
      refine Hb.done ?_
      clear K5 g5
      go_wp2_with fail
      go_ret
      exact ⟨by rw [HQ.out]; rfl, by rw [HADD.out]; exact (W5.out.behind HBA.out).behind B3.out⟩
end Go.Proofs.YtacipjdaiglnjaaGreatDoor

/- Contract of New. -/
namespace Go.Proofs.YtacipjdaiglnjaaGreatDoor
open Go.RowKit

/-- A log that was just made. -/
theorem Lg.new (w : World) : Lg (w.alloc (.cells #[.slice none 0 0] 131)) w.heap.size [w.heap.size] [] :=
  ⟨⟨none, 0, Blk.new w #[.slice none 0 0] 131, ⟨rfl, .inl ⟨rfl, rfl, rfl⟩⟩, rfl⟩, by simp⟩

set_option maxHeartbeats 4000000 in
set_option maxRecDepth 100000 in
theorem New_c (w : World) (B : Nat) (A : Option Addr) (c n : Nat) (es : List Ent) (R : Rd w B A c 7 n (els es)) :
    Calls Tryz.prog 47 #[.slice A n c] w fun x w' => ∃ (g : Nat) (F : List Nat), x = .returned (.pointer (some ⟨g, 0, none⟩)) ∧ Lg w' g F (PLog.log es) ∧ (∀ k ∈ F, w.heap.size ≤ k) ∧ Below w.heap.size w w' := by
  have hcap := R.cap
  have hle := R.le
  have hn : n ≤ 9223372036854775807 := by unfold maxLen at hcap; omega
  have HL := Lib.hid R.elen
  have R0 := Lib.hid R.tight
  have H1 := Lib.hid (Lg.new w)
  have b1 := Lib.hid ((Below.refl w.heap.size w).alloc (Nat.le_refl _) (.cells #[.slice none 0 0] 131))
  clear R hcap hle
  go_enter Tryz.func47, Tryz.ntmps47
  go_wp2_with fail
  generalize w.alloc (.cells #[.slice none 0 0] 131) = w1 at *
  go_loopw [9] (fun s9 wr => ∃ (i : Nat) (F : List Nat), s9 = .int .i64 i ∧ i ≤ n ∧ Hid (Lg wr w.heap.size F (PLog.log (es.take i))) ∧ Hid (∀ k ∈ F, w.heap.size ≤ k) ∧ Hid (Below w.heap.size w wr)) (fun s9 _ => n - (intOf s9).toNat)
  case atStart => exact ⟨0, [w.heap.size], rfl, by omega, H1, Lib.hid (by simp), b1⟩
  case round =>
    clear H1 b1
    obtain ⟨i, F, rfl, hi, HG, HF, BT⟩ := hrel
    by_cases hin : i < n
    · obtain ⟨b, o, e, rfl, -, he, -, d0, d1, d2, d3, d4, d5, d6⟩ := (R0.out.below BT.out).ent hin
      have HE := Lib.hid he
      have L1 := Lib.hid (HG.out.alloc (.cells #[.int .i64 e.fr, .int .i64 e.boot, .int .i64 e.seq, .int .i64 e.ord, .int .i64 e.lev, .int .i64 e.stamp, .string e.data] 93))
      have b2 := (Below.refl wr.heap.size wr).alloc (Nat.le_refl _) (.cells #[.int .i64 e.fr, .int .i64 e.boot, .int .i64 e.seq, .int .i64 e.ord, .int .i64 e.lev, .int .i64 e.stamp, .string e.data] 93)
      have B2 := Lib.hid (BT.out.trans (b2.mono BT.out.size))
      clear he b2
      go_wp2_with fail
      clear d0 d1 d2 d3 d4 d5 d6
      generalize (wr.alloc (.cells #[.int .i64 e.fr, .int .i64 e.boot, .int .i64 e.seq, .int .i64 e.ord, .int .i64 e.lev, .int .i64 e.stamp, .string e.data] 93)) = w2 at *
      refine (Add_c w2 w.heap.size F _ L1.out e).mono ?_
      rintro x w3 ⟨rfl, ⟨⟨F3, l3, f3⟩, t3⟩⟩
      have L3 := Lib.hid (show Lg w3 w.heap.size F3 (PLog.log (es.take (i + 1))) by rw [take_step HE.out, PLog.log_append]; exact l3)
      have HF3 := Lib.hid (show ∀ k ∈ F3, w.heap.size ≤ k from fun k hk => (f3 k hk).elim (HF.out k) (fun h => Nat.le_trans B2.out.size h))
      have B3 := Lib.hid (B2.out.trans (t3.below HF.out B2.out.size))
      clear l3 f3 t3
      go_wp2_with fail
      go_roundw
      case rel => exact ⟨i + 1, F3, by go_num, by omega, L3, HF3, B3⟩
      case measure => simp [intOf]; omega
    · obtain rfl : i = n := by omega
      have e1 : es.take i = es := List.take_of_length_le (by rw [HL.out]; omega)
      rw [e1] at HG
      go_wp2_with fail
      go_ret
      exact ⟨w.heap.size, F, rfl, HG.out, HF.out, BT.out⟩

end Go.Proofs.YtacipjdaiglnjaaGreatDoor

