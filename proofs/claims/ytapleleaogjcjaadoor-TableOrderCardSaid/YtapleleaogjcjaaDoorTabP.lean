/- Contracts of put, Do. -/
import Derived.Test.YtapleleaogjcjaaDoorTabO
namespace Go.Proofs.YtapleleaogjcjaaDoor
open Go.RowKit PTab

theorem ins_ok {L : List Pr} (h : Ok L) {a v : ByteArray} {d : Bool} (hs : a.size + v.size ≤ 16) (hv : d = false → v.size ≠ 0) : Ok (ins a v L d) := by
  refine ⟨srt_ins a v h.srt d, fun p hp => ?_, fun p hp => ?_⟩
  · rcases ins_mem hp with ⟨rfl, -⟩ | hp
    · exact hs
    · exact h.sz p hp
  · rcases ins_mem hp with ⟨rfl, hd⟩ | hp
    · exact hv hd
    · exact h.val p hp
/-- A block that is new may be written, too. -/
theorem Touch.newer {S : List Nat} {a b c : World} {k : Nat} (h : Touch S a b) (hg : b.grownBy c (some k)) (hk : a.heap.size ≤ k) : Touch S a c :=
  ⟨hg.os.trans h.os, hg.tape.trans h.tape, hg.output.trans h.output, Nat.le_trans h.size hg.size, fun j hj hn => (hg.block j (Nat.lt_of_lt_of_le hj h.size) (by simp; omega)).trans (h.block j hj hn)⟩
theorem wpList_putT {w : World} {b c : Nat} {L : List Pr} {ops : Array Oper} {rest : List Oper} {o : Oper} {s : Act} {Q : Exit → Act → World → Prop} (hg : o.guard = none) (m x v : Operand) (hop : o.op = Op.mapUpdate 48 m x v)
    (h : Mt w b c L) (hs : Srt L) (a u : ByteArray) (ha : a.size ≤ maxLen) (hc : c < maxLen) (hm : s.eval m = .map (some b)) (hx : s.eval x = .string a) (hv : s.eval v = .agg #[.string u])
    (hK : ∀ w', Mt w' b (c + 1) (ins a u L false) → w.grownBy w' (some b) → wpList Tryd.prog ops Q rest (s.put o.dst undef) w') : wpList Tryd.prog ops Q (o :: rest) s w := by
  refine wpList_plain hg fun K' hK' => ?_
  obtain ⟨w', hrun, r1, r2⟩ := h.put hs a u ha hc
  unfold Oper.wp
  simp [execOp, hop, hm, hx, hv, hrun, Result.andThen]
  exact hK' _ _ (hK w' r1 r2)

set_option maxHeartbeats 1000000 in
set_option maxRecDepth 100000 in
theorem put_c (w : World) (g : Nat) (F : List Nat) (c : Nat) (L : List Pr) (h : Tb w g F c L) (a v : ByteArray) (hs : a.size + v.size ≤ 16) (hv : v.size ≠ 0) (hc : c < 1000000) :
    Calls Tryd.prog 21 #[.pointer (some ⟨g, 0, none⟩), .string a, .string v] w fun x w' => x = .returned (.tuple #[]) ∧ TW w w' g F (c + 1) (ins a v L false) := by
  obtain ⟨q, hB, hM, rfl⟩ := h.ex
  have HOK := Lib.hid (ins_ok h.ok (d := false) hs (fun _ => hv))
  have HS := Lib.hid h.ok.srt
  have HA := Lib.hid (show a.size ≤ maxLen by unfold maxLen; omega)
  have HC := Lib.hid (show c < maxLen by unfold maxLen; omega)
  clear h
  rcases hM with ⟨hq, rfl⟩ | ⟨b, hq, hM⟩
  · cases hq
    have hnil : ∀ W, (binOp .eql 48 (.map none) (.map none)).run Tryd.prog W = .ok (.bool true) W := fun W => run_eql_map_nil W _ _ _ none Tryd.underlying48
    have hmm := @run_makeMap Tryd.prog
    have Bm := (Below.refl w.heap.size w).alloc (Nat.le_refl _) (.map #[] 0)
    have hM1 := Mt.made w
    have hB1 := hB.past Bm
    have hgm : w.heap.size ≠ g := hM1.ne hB1
    have hs := Touch.of_grown (grown_set (w.alloc (.map #[] 0)) g 0 (.map (some w.heap.size)))
    have hB2 := hB1.set 0 (.map (some w.heap.size))
    have hM2 := hM1.touch hs (by simpa using hgm)
    have hT2 : Touch [g] w _ := (Touch.of_below Bm).trans hs
    have d1 := hB.cell (i := 0) rfl
    have e1 := hB1.cell (i := 0) rfl
    have f1 := hB1.free 0
    have k2 := hB2.cell (i := 0) rfl
    simp only [List.set_cons_zero] at hB2 k2
    have HX := Lib.hid (And.intro hB2 (And.intro hM2 hT2))
    have HLT := Lib.hid hB.lt
    clear hB hB1 hM1 Bm hs hB2 hM2 hT2
    go_enter Tryd.func21, Tryd.ntmps21
    go_wp2_with (at_mapUpdate; refine wpList_putT rfl (.tmp 18) (.tmp 19) (.tmp 21) rfl HX.out.2.1 HS.out a v HA.out (by unfold maxLen; omega) rfl rfl rfl ?_)
    intro w4 m4 g4
    go_wp2_with fail
    go_end0
    refine ⟨rfl, ⟨⟨[g, w.heap.size], ⟨⟨some w.heap.size, HX.out.1.far g4 hgm.symm, .inr ⟨_, rfl, m4.mono (by omega)⟩, rfl⟩, HOK.out⟩, fun k hk => ?_⟩, HX.out.2.2.newer g4 (Nat.le_refl _)⟩⟩
    · rcases List.mem_cons.1 hk with rfl | hk
      · exact .inl (List.mem_cons_self ..)
      · rw [List.mem_singleton.1 hk]; exact .inr (Nat.le_refl _)
  · cases hq
    have hne : ∀ W, (binOp .eql 48 (.map (some b)) (.map none)).run Tryd.prog W = .ok (.bool false) W := fun W => run_eql_map_nil W _ _ _ (some b) Tryd.underlying48
    have d1 := hB.cell (i := 0) rfl
    have HB := Lib.hid hB
    have HM := Lib.hid hM
    have HN := Lib.hid (hM.ne hB)
    clear hB hM
    go_enter Tryd.func21, Tryd.ntmps21
    go_wp2_with (at_mapUpdate; refine wpList_putT rfl (.tmp 18) (.tmp 19) (.tmp 21) rfl HM.out HS.out a v HA.out HC.out rfl rfl rfl ?_)
    intro w4 m4 g4
    go_wp2_with fail
    go_end0
    exact ⟨rfl, ⟨⟨[g, b], ⟨⟨some b, HB.out.far g4 HN.out.symm, .inr ⟨_, rfl, m4⟩, rfl⟩, HOK.out⟩, fun k hk => .inl hk⟩, (Touch.of_grown g4).wide (fun k hk => List.mem_cons_of_mem _ hk)⟩⟩
end Go.Proofs.YtapleleaogjcjaaDoor
