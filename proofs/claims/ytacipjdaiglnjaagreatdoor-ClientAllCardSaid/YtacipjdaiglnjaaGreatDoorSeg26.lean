/- A process that decides a view of two of three, asked by a client, as plain data: what a tick, an MAck, a Cast make of it. -/
import Derived.Test.YtacipjdaiglnjaaGreatDoorSeg25
import Derived.Test.YtacipjdaiglnjaaGreatDoorSeg24
import Derived.Test.YtacipjdaiglnjaaGreatDoorSeg19
import Derived.Lib.Hide
import Derived.Test.YtacipjdaiglnjaaGreatDoorRows
import Derived.Test.YtacipjdaiglnjaaGreatDoorSeg1
import Derived.Laws.LoneSync
import Derived.Test.YtacipjdaiglnjaaGreatDoorSeg18
import Derived.Test.YtacipjdaiglnjaaGreatDoorSeg9
import Derived.Test.YtacipjdaiglnjaaGreatDoorSeg17
import Derived.Lib.LaidTab
import Derived.LaidMore
import Derived.Test.YtacipjdaiglnjaaGreatDoorSeg2
namespace Go.Proofs.YtacipjdaiglnjaaGreatDoor
open Go.RowKit PNode

theorem okN_add {L : List Ent} (h : PLog.okN [] L = true) (e : Ent) : PLog.okN [] (PLog.add L e) = true := PLog.foldl_ok [e] L h
theorem okN_adds {p : Np} {t : Te} (h : PLog.okN [] p.L = true) (es : List Ent) : PLog.okN [] (addsLH p t es).1 = true := by
  have : ∀ (es : List Ent) (s : List Ent × List Int), PLog.okN [] s.1 = true → PLog.okN [] (es.foldl (addStep p) s).1 = true := by
    intro es
    induction es with
    | nil => intro s h; exact h
    | cons e r ih => intro s h; exact ih _ (okN_add h _)
  exact this es (p.L, t.H) h
theorem okN_60 {L : List Ent} (h : PLog.okN [] L = true) : L.length ≤ 60 := by
  have := PLog.okN_len (L := []) (by simp) h
  simpa using this
theorem newT_len (p : Np) : (newT p).length ≤ p.L.length := PReady.go_len _ _ _ _
theorem setP_T (p : Np) : (setP p).T = p.T ++ newT p := rfl

namespace PNode
/-- The answer of the other one: it has pos entries, and the probe num. -/
def akM (pos num : Int) : Msg := ⟨6, 2, 1, 1, 1, 0, 0, pos, [], 0, num, 0, false⟩
/-- What is known of the others. -/
def gB : List Oth := PGram.hleft 1 PGram.zeroL (some bgM)
/-- Behind an MAck. -/
def ackF (p : Np) (t : Te) (m : Msg) : Np :=
  if (comP (gotP p m) (PQuo.dbest t.m p.n (ackH t m).H 7)).com < t.start then { comP (gotP p m) (PQuo.dbest t.m p.n (ackH t m).H 7) with te := some (ackT (gotP p m) t m) }
  else ansP (comP (gotP p m) (PQuo.dbest t.m p.n (ackH t m).H 7)) (ackT (gotP p m) t m) (PQuo.dbest t.m p.n (ackH t m).P 7)
/-- Behind a Cast. -/
def cstP (p : Np) (e : Ent) : Np := { p with seq := p.seq + 1, pend := p.pend ++ [e] }

end PNode
open PNode
/-- It decides; k steps went by. -/
structure Ld (k : Nat) (p : Np) (t : Te) : Prop where
  te : p.te = some t
  id : p.id = 1
  n : p.n = 3
  boot : p.boot = 1
  pro : p.pro = 1
  last : p.last = 1
  mem : p.mem = 3
  kn : p.knows = true
  vo : p.vo = none
  den : p.den = 0
  lt : Lt p t
  own : ∀ q ∈ t.qs, q.fr = p.id
  ok : PLog.okN [] p.L = true
  clk : p.clock ≤ 11 + (k : Int)
  T : p.T.length ≤ 60 * k
  pl : p.pl ≤ 1048576 + (k : Int)
  ql : t.ql ≤ (k : Int)
  qs : t.qs.length ≤ k
  G : p.G = gB
/-- It proposed, and has its own vote alone. -/
structure Pp (k : Nat) (p : Np) : Prop where
  te : p.te = none
  id : p.id = 1
  n : p.n = 3
  last : p.last = 1
  kn : p.knows = true
  den : p.den = 0
  pro : 1 < p.pro ∧ p.pro ≤ 1 + 8 * (k : Int)
  vo : ∃ V, p.vo = some (p.pro, V) ∧ PTeam.most (PVote.tm V) 3 = false
  ok : PLog.okN [] p.L = true
  clk : p.clock ≤ 11 + (k : Int)
  T : p.T.length ≤ 60 * k
/-- One or the other. -/
def Sw (k : Nat) (p : Np) : Prop := (∃ t, Ld k p t) ∨ Pp k p

section
variable {k : Nat} {p : Np} {t : Te}
theorem te_self (h : p.te = some t) : { p with te := some t } = p := by cases p; simp only at h; rw [h]
theorem Ld.inV (h : Ld k p t) : PNode.inV p = true := by
  unfold PNode.inV; rw [h.kn, h.last, h.pro, h.mem, h.id]; rfl
theorem Ld.hasV (h : Ld k p t) : PNode.hasV p = false := by unfold PNode.hasV; rw [h.vo]
theorem Ld.dec (h : Ld k p t) : PNode.dec p = true := by unfold PNode.dec; rw [h.te, h.inV]; rfl
theorem Pp.inV (h : Pp k p) : PNode.inV p = false := by
  have h1 := h.pro.1
  have e : (p.last == p.pro) = false := by rw [h.last]; simp; omega
  unfold PNode.inV; rw [e]; simp
theorem Pp.hasV (h : Pp k p) : PNode.hasV p = true := by
  obtain ⟨V, hv, -⟩ := h.vo
  unfold PNode.hasV; rw [hv]; exact beq_self_eq_true p.pro
theorem setT_len (h : p.T.length ≤ 60 * k) (hL : p.L.length ≤ 60) : (setP p).T.length ≤ 60 * (k + 1) := by
  have := newT_len p
  rw [setP_T, List.length_append]; omega

theorem Ld.tick (h : Ld k p t) (hk : k ≤ 1000) : Ld (k + 1) (setP (ledP (clkP p) t)) (ledT (clkP p) t) := by
  have hL := okN_60 h.ok
  have hq := h.ql
  have hs := h.qs
  have hp := h.pl
  have hok : PLog.okN [] (ledP (clkP p) t).L = true := okN_adds (p := clkP p) h.ok _
  have h0 : Lt (clkP p) t := Lt.same h.lt rfl rfl rfl h.lt.pl
  refine ⟨rfl, h.id, h.n, h.boot, h.pro, h.last, h.mem, h.kn, h.vo, h.den, ?_, ?_, hok, ?_, ?_, ?_, ?_, ?_, h.G⟩
  · exact Lt.same (p := ledP (clkP p) t) (Lt.led h0 hL (by omega) (by omega) (by show p.pl + 1 < _; omega)) rfl rfl rfl (by show p.pl + 1 < _; omega)
  · exact own_led (p := clkP p) h.own
  · have := h.clk; show p.clock + 1 ≤ _; omega
  · exact setT_len (p := ledP (clkP p) t) h.T (okN_60 hok)
  · show p.pl + 1 ≤ _; omega
  · show t.ql + 1 ≤ _; omega
  · show (t.qs ++ [_]).length ≤ _; rw [List.length_append, List.length_singleton]; omega

theorem gotQ_rest (p : Np) (num : Int) : (gotQ p num).boot = p.boot ∧ (gotQ p num).G = p.G ∧ (gotQ p num).T = p.T := by
  unfold gotQ
  split <;> exact ⟨rfl, rfl, rfl⟩
theorem gotQs_rest (p : Np) : ∀ (l : List Qn), (gotQs p l).boot = p.boot ∧ (gotQs p l).G = p.G ∧ (gotQs p l).T = p.T := by
  intro l
  induction l generalizing p with
  | nil => exact ⟨rfl, rfl, rfl⟩
  | cons q r ih =>
    obtain ⟨a1, a2, a3⟩ := ih (gotQ p q.num)
    obtain ⟨b1, b2, b3⟩ := gotQ_rest p q.num
    exact ⟨a1.trans b1, a2.trans b2, a3.trans b3⟩
theorem got_ak {pos num : Int} (h1 : p.id = 1) (h2 : p.G = gB) : (gotP p (akM pos num)).G = gB := by
  show PGram.hleft p.id p.G (some (akM pos num)) = gB
  rw [h1, h2]; rfl
theorem herr_ak {pos num : Int} (h1 : p.id = 1) (h2 : p.G = gB) : PGram.herr p.id p.G (some (akM pos num)) = 0 := by
  rw [h1, h2]; rfl

theorem has_two : PTeam.has 3 2 = true := by decide +kernel
/-- Behind it: what stays of it. -/
theorem Ld.ack (h : Ld k p t) (hr : Nr p) {pos num : Int} (hp : 0 ≤ pos ∧ pos ≤ 60) : (∃ t', Ld (k + 1) (setP (ackF p t (akM pos num))) t') ∧ p.T <+: (setP (ackF p t (akM pos num))).T := by
  have h2 : PTeam.has t.m (akM pos num).fr = true := by rw [h.lt.m, h.mem]; exact has_two
  have h0 : Lt (gotP p (akM pos num)) t := Lt.same h.lt rfl rfl rfl h.lt.pl
  have hG := got_ak (pos := pos) (num := num) h.id h.G
  have hL := okN_60 h.ok
  have hql := h.ql
  have hqs := h.qs
  have hpl := h.pl
  have hck := h.clk
  unfold ackF
  generalize PQuo.dbest t.m p.n (ackH t (akM pos num)).H 7 = r
  generalize PQuo.dbest t.m p.n (ackH t (akM pos num)).P 7 = s
  have h1 : Lt (comP (gotP p (akM pos num)) r) (ackT (gotP p (akM pos num)) t (akM pos num)) := Lt.ack h0 (hr.got _) h2 hp r
  split
  · refine ⟨⟨ackT (gotP p (akM pos num)) t (akM pos num), rfl, h.id, h.n, h.boot, h.pro, h.last, h.mem, h.kn, h.vo, h.den, ?_, h.own, h.ok, ?_, ?_, ?_, ?_, ?_, hG⟩, List.prefix_append _ _⟩
    · exact Lt.same h1 rfl rfl rfl h1.pl
    · show p.clock ≤ _; omega
    · exact setT_len (p := { comP (gotP p (akM pos num)) r with te := some (ackT (gotP p (akM pos num)) t (akM pos num)) }) h.T hL
    · show p.pl ≤ _; omega
    · show t.ql ≤ _; omega
    · show t.qs.length ≤ _; omega
  · unfold ansP
    generalize hn : nR (ackT (gotP p (akM pos num)) t (akM pos num)).qs s = n
    have h3 := Lt.ans' h1 n ((ackT (gotP p (akM pos num)) t (akM pos num)).qs.take n)
    obtain ⟨a1, a2, a3, a4, a5⟩ := gotQs_same { comP (gotP p (akM pos num)) r with te := some { ackT (gotP p (akM pos num)) t (akM pos num) with qs := (ackT (gotP p (akM pos num)) t (akM pos num)).qs.drop n } } ((ackT (gotP p (akM pos num)) t (akM pos num)).qs.take n)
    obtain ⟨b1, b2, b3, b4, b5, b6, b7, b8, b9⟩ := gotQs_more { comP (gotP p (akM pos num)) r with te := some { ackT (gotP p (akM pos num)) t (akM pos num) with qs := (ackT (gotP p (akM pos num)) t (akM pos num)).qs.drop n } } ((ackT (gotP p (akM pos num)) t (akM pos num)).qs.take n)
    obtain ⟨c1, c2, c3⟩ := gotQs_rest { comP (gotP p (akM pos num)) r with te := some { ackT (gotP p (akM pos num)) t (akM pos num) with qs := (ackT (gotP p (akM pos num)) t (akM pos num)).qs.drop n } } ((ackT (gotP p (akM pos num)) t (akM pos num)).qs.take n)
    generalize gotQs { comP (gotP p (akM pos num)) r with te := some { ackT (gotP p (akM pos num)) t (akM pos num) with qs := (ackT (gotP p (akM pos num)) t (akM pos num)).qs.drop n } } ((ackT (gotP p (akM pos num)) t (akM pos num)).qs.take n) = q at *
    refine ⟨⟨{ ackT (gotP p (akM pos num)) t (akM pos num) with qs := (ackT (gotP p (akM pos num)) t (akM pos num)).qs.drop n }, a4, a1.trans h.id, a5.trans h.n, c1.trans h.boot, b5.trans h.pro, b6.trans h.last, b1.trans h.mem, b7.trans h.kn, b8.trans h.vo, b9.trans h.den, ?_, ?_, ?_, ?_, ?_, ?_, ?_, ?_, c2.trans hG⟩, ?_⟩
    · exact Lt.same h3 rfl rfl rfl h3.pl
    · intro z hz
      exact (h.own z (List.mem_of_mem_drop hz)).trans a1.symm
    · show PLog.okN [] q.L = true; rw [a3]; exact h.ok
    · show q.clock ≤ _; rw [b4]; show p.clock ≤ _; omega
    · exact setT_len (p := q) (by rw [c3]; exact h.T) (by rw [a3]; exact hL)
    · show q.pl ≤ _; rw [b2]; show p.pl ≤ _; omega
    · show t.ql ≤ _; omega
    · show (t.qs.drop n).length ≤ _; rw [List.length_drop]; omega
    · rw [setP_T, c3]; exact List.prefix_append _ _
theorem Ld.cast (h : Ld k p t) (e : Ent) : Ld (k + 1) (cstP p e) t := by
  have h1 := h.clk
  have h2 := h.T
  have h3 := h.pl
  have h4 := h.ql
  have h5 := h.qs
  exact ⟨h.te, h.id, h.n, h.boot, h.pro, h.last, h.mem, h.kn, h.vo, h.den, Lt.same h.lt rfl rfl rfl h.lt.pl, h.own, h.ok, by show p.clock ≤ _; omega, by show p.T.length ≤ _; omega, by show p.pl ≤ _; omega, by omega, by omega, h.G⟩
theorem Ld.more (h : Ld k p t) : Ld (k + 1) p t := by
  have h1 := h.clk
  have h2 := h.T
  have h3 := h.pl
  have h4 := h.ql
  have h5 := h.qs
  exact ⟨h.te, h.id, h.n, h.boot, h.pro, h.last, h.mem, h.kn, h.vo, h.den, h.lt, h.own, h.ok, by omega, by omega, by omega, by omega, by omega, h.G⟩
theorem Pp.more (h : Pp k p) : Pp (k + 1) p := by
  have h1 := h.clk
  have h2 := h.T
  have h3 := h.pro
  exact ⟨h.te, h.id, h.n, h.last, h.kn, h.den, by omega, h.vo, h.ok, by omega, by omega⟩
theorem Sw.more (h : Sw k p) : Sw (k + 1) p := h.imp (fun ⟨t, h⟩ => ⟨t, h.more⟩) Pp.more

theorem ownG_most (p : Np) (v : Int) (h1 : p.id = 1) : PTeam.most (PVote.tm (ownG p v)) 3 = false := by
  unfold ownG PVote.add
  split
  · rw [PVote.tm_put _ (by rfl) _ (by show 1 ≤ p.id; omega) (by show p.id ≤ 7; omega), PVote.tm_none]
    show PTeam.most (PTeam.wth 0 p.id) 3 = false
    rw [h1]; decide +kernel
  · rw [PVote.tm_none]; decide +kernel
/-- Behind its proposing. -/
theorem pp_prop {p q : Np} {Q : List Mp} (h : cPropG p 3 Q q) (h1 : p.id = 1) (h3 : p.n = 3) (hl : p.last = 1) (hkn : p.knows = true) (hd : p.den = 0) (hp : 1 ≤ p.pro ∧ p.pro ≤ 1 + 8 * (k : Int)) (ok : PLog.okN [] p.L = true) (hc : p.clock ≤ 12 + (k : Int)) (hT : p.T.length ≤ 60 * k) :
    Pp (k + 1) (setP q) ∧ p.T <+: (setP q).T ∧ ∀ m ∈ Q, m.m.kind = 1 := by
  obtain ⟨v, hv, rfl, rfl⟩ := h
  have e1 := hv.1
  have e2 := hv.2.1
  have e3 : max p.pro p.den = p.pro := by rw [hd]; exact Int.max_eq_left (by omega)
  rw [e3] at e1 e2
  rw [h3] at e2
  refine ⟨⟨rfl, h1, h3, hl, hkn, rfl, ?_, ⟨ownG p v, rfl, ownG_most p v h1⟩, ok, ?_, ?_⟩, List.prefix_append _ _, ?_⟩
  · show 1 < v ∧ v ≤ _; omega
  · show p.clock ≤ _; omega
  · exact setT_len (p := prpG p v) hT (okN_60 ok)
  · intro m hm
    obtain ⟨i, hi⟩ := List.mem_iff_getElem?.1 hm
    obtain ⟨dst, rfl⟩ := propsP_each hi
    rfl
theorem Ld.off (h : Ld k p t) {Q : List Mp} {q : Np} (hq : cPropG (addsP (clkP p) t p.pend) 3 Q q) : Pp (k + 1) (setP q) ∧ p.T <+: (setP q).T ∧ ∀ m ∈ Q, m.m.kind = 1 :=
  pp_prop (p := addsP (clkP p) t p.pend) hq h.id h.n h.last h.kn h.den (by show 1 ≤ p.pro ∧ p.pro ≤ _; rw [h.pro]; omega) (okN_adds (p := clkP p) h.ok _) (by have := h.clk; show p.clock + 1 ≤ _; omega) h.T
theorem Pp.late (h : Pp k p) {Q : List Mp} {q : Np} (hq : cPropG (clkP p) 3 Q q) : Pp (k + 1) (setP q) ∧ p.T <+: (setP q).T ∧ ∀ m ∈ Q, m.m.kind = 1 :=
  pp_prop (p := clkP p) hq h.id h.n h.last h.kn h.den (by have := h.pro; show 1 ≤ p.pro ∧ p.pro ≤ _; omega) h.ok (by have := h.clk; show p.clock + 1 ≤ _; omega) h.T
theorem Pp.canv (h : Pp k p) {Q : List Mp} {q : Np} {v : Int} {V : List (Option Vt)} (hq : cCanv (clkP p) 3 v V Q q) : Pp (k + 1) (setP q) ∧ p.T <+: (setP q).T ∧ ∀ m ∈ Q, m.m.kind = 1 := by
  obtain ⟨rfl, rfl⟩ := hq
  have h1 := h.clk
  have h3 := h.pro
  refine ⟨⟨h.te, h.id, h.n, h.last, h.kn, h.den, ?_, h.vo, h.ok, ?_, ?_⟩, List.prefix_append _ _, ?_⟩
  · show 1 < p.pro ∧ p.pro ≤ _; omega
  · show p.clock + 1 ≤ _; omega
  · exact setT_len (p := clkP p) h.T (okN_60 h.ok)
  · intro m hm
    obtain ⟨i, hi⟩ := List.mem_iff_getElem?.1 hm
    obtain ⟨dst, rfl⟩ := propsP_each hi
    rfl
end
end Go.Proofs.YtacipjdaiglnjaaGreatDoor

/- A law's process that decides, or proposed: Tick, Hear of an MAck, Cast; what it is asked. -/
namespace Go.Proofs.YtacipjdaiglnjaaGreatDoor
open Go.RowKit PNode

theorem may_ak {pos num : Int} (h1 : 0 ≤ pos ∧ pos ≤ 60) (h2 : 0 ≤ num ∧ num ≤ 1099511627776) : PMsg.may (akM pos num) = true := by
  rw [PMsg.may_iff]
  unfold PMsg.May akM
  simp only [List.length_nil, Nat.zero_le, true_and]
  try (refine ⟨?_, ?_⟩)
  all_goals first | omega | (simp; try omega)
theorem ackF_LT (p : Np) (t : Te) (m : Msg) : (ackF p t m).L = p.L ∧ (ackF p t m).T = p.T := by
  unfold ackF
  split
  · exact ⟨rfl, rfl⟩
  · unfold ansP
    exact ⟨(gotQs_same _ _).2.2.1, (gotQs_rest _ _).2.2⟩
theorem IsR.dbest {m : Nat} {n : Int} {H : List Int} {u r : Int} (h : PQuo.Ok m H u) (hm : PTeam.most m n = true) (hr : PQuo.IsR H n r) : r = PQuo.dbest m n H 7 := PQuo.uniq hr (PQuo.dbest_isR h hm)

section
variable {w : World} {x d k : Nat} {F : List Nat} {p : Np} {t : Te}
/-- What a tick of one that decides leaves. -/
def cLead (p : Np) (t : Te) (Q : List Mp) (p' : Np) : Prop :=
  (silent (clkP p) t = true ∧ cPropG (addsP (clkP p) t p.pend) 3 Q p') ∨ (silent (clkP p) t = false ∧ Q.map Mp.m = [sends (clkP p) 2 (ledM (clkP p) t 2)] ∧ p' = ledP (clkP p) t)
theorem lst_two : PTeam.lst (PTeam.wout 3 1) = [2] := by decide +kernel
theorem TickPost.to {w : World} {x d : Nat} {F : List Nat} {C C' : List Mp → Np → Prop} {e : Ending} {w' : World} (h : TickPost w x d F C e w') (hc : ∀ Q p', C Q p' → C' Q p') : TickPost w x d F C' e w' := by
  obtain ⟨Q, p', A, c, q1, q2, q3, q4⟩ := h
  exact ⟨Q, p', A, c, hc Q p' q1, q2, q3, q4⟩
theorem Nd.lead (h : Nd w x d F p) (L : Ld k p t) (hk : k ≤ 1000) :
    Calls Tryz.prog 10 #[.pointer (some ⟨x, 0, none⟩)] w (TickPost w x d F (cSet (cLead p t))) :=
  tick_lead (p := p) (t := t) (by rw [te_self L.te]; exact h) L.lt 3 L.n L.kn L.hasV L.inV (by rw [L.pro]; omega) (by rw [L.den]; omega) (by have := L.clk; omega) (cLead p t)
    (fun Q q hq => by
      have hT : p.T.length ≤ 999900 := by have := L.T; omega
      rcases hq with ⟨-, v, -, -, rfl⟩ | ⟨-, -, rfl⟩
      · exact ⟨okN_adds (p := clkP p) L.ok _, hT⟩
      · exact ⟨okN_adds (p := clkP p) L.ok _, hT⟩)
    (fun hs Q q hq => .inl ⟨hs, hq⟩)
    (fun hs Q hQ => .inr ⟨hs, by rw [hQ, L.mem, L.id, lst_two]; rfl, rfl⟩)
theorem Nd.canv (h : Nd w x d F p) (L : Pp k p) (hk : k ≤ 1000) :
    Calls Tryz.prog 10 #[.pointer (some ⟨x, 0, none⟩)] w (TickPost w x d F (fun Q p' => Pp (k + 1) p' ∧ p.T <+: p'.T ∧ ∀ m ∈ Q, m.m.kind = 1)) := by
  obtain ⟨V, hv, hm⟩ := L.vo
  have hm' : PTeam.most (PVote.tm V) p.n = false := by rw [L.n]; exact hm
  have hT : p.T.length ≤ 999900 := by have := L.T; omega
  have hc : p.clock < 1099511627776 := by have := L.clk; omega
  cases hl : late (clkP p)
  · exact (tick_canv h 3 L.n L.kn L.hasV hv hm' L.den hl hc ⟨L.ok, hT⟩).mono fun e w' hh => hh.to fun Q p' ⟨q, hq, e⟩ => by rw [e]; exact L.canv hq
  · exact (tick_latV h 3 L.n L.kn L.hasV hv hm' L.den hl (by have := L.pro; omega) hc (fun Q q hq => by obtain ⟨v, -, -, rfl⟩ := hq; exact ⟨L.ok, hT⟩)).mono fun e w' hh => hh.to fun Q p' ⟨q, hq, e⟩ => by rw [e]; exact L.late hq
/-- What is answered: one message of two kinds, if it decides; others are not. -/
def cMs (k : Nat) (Q : List Mp) (p' : Np) : Prop :=
  (∃ q t, Q = [q] ∧ (q.m.kind = 4 ∨ q.m.kind = 5) ∧ (0 ≤ q.m.num ∧ q.m.num ≤ 1099511627776) ∧ Ld k p' t) ∨ ∀ q ∈ Q, q.m.kind = 1
/-- What any tick leaves. -/
def cTick (k : Nat) (p : Np) (Q : List Mp) (p' : Np) : Prop := Sw (k + 1) p' ∧ p.T <+: p'.T ∧ cMs (k + 1) Q p'
/-- The message to the other one. -/
theorem led_kind (p : Np) (t : Te) : (ledM p t 2).kind = 4 ∨ (ledM p t 2).kind = 5 := by
  unfold ledM; split
  · exact .inr rfl
  · exact .inl rfl
theorem led_num (p : Np) (t : Te) (h : 0 ≤ t.ql ∧ t.ql < 1000000) : 0 ≤ (ledM p t 2).num ∧ (ledM p t 2).num ≤ 1099511627776 := by
  unfold ledM; split
  · show 0 ≤ t.ql + 1 ∧ t.ql + 1 ≤ _; omega
  · show (0 : Int) ≤ 0 ∧ (0 : Int) ≤ _; omega
theorem Nd.tickW (h : Nd w x d F p) (L : Sw k p) (hk : k ≤ 1000) :
    Calls Tryz.prog 10 #[.pointer (some ⟨x, 0, none⟩)] w (TickPost w x d F (cTick k p)) := by
  rcases L with ⟨t, L⟩ | L
  · refine (h.lead L hk).mono fun e w' hh => hh.to ?_
    rintro Q p' ⟨q, hq, rfl⟩
    rcases hq with ⟨-, hq⟩ | ⟨-, hq, rfl⟩
    · obtain ⟨a, b, c⟩ := L.off hq
      exact ⟨.inr a, b, .inr c⟩
    · obtain ⟨m, rfl, hm⟩ := List.map_eq_singleton_iff.1 hq
      have hl := L.tick hk
      exact ⟨.inl ⟨_, hl⟩, List.prefix_append _ _, .inl ⟨m, _, rfl, by rw [hm]; exact led_kind _ _, by rw [hm]; exact led_num _ _ ⟨L.lt.k.l0, L.lt.ql⟩, hl⟩⟩
  · exact (h.canv L hk).mono fun e w' hh => hh.to fun Q p' ⟨a, b, c⟩ => ⟨.inr a, b, .inr c⟩
/-- It hears the other one's MAck. -/
theorem Nd.ackd (h : Nd w x d F p) (L : Ld k p t) (hk : k ≤ 1000) {Ab : Option Addr} {cb nb : Nat} {pos num : Int} (hp : 0 ≤ pos ∧ pos ≤ 60) (hn : 0 ≤ num ∧ num ≤ 1099511627776)
    (R : Rd w w.heap.size Ab cb 1 nb (bs (PMsg.enc (akM pos num)))) (hnb : nb ≤ 1000000) (ht : Tab w) :
    Calls Tryz.prog 28 #[.pointer (some ⟨x, 0, none⟩), .slice Ab nb cb] w (TickPost w x d F (cSet (fun Q p' => Q = [] ∧ p' = ackF p t (akM pos num)))) := by
  have h2 : PTeam.has p.mem (akM pos num).fr = true := by rw [L.mem]; exact has_two
  have h3 : PTeam.has t.m (akM pos num).fr = true := by rw [L.lt.m]; exact h2
  have hql := L.ql
  have hm : PTeam.most t.m p.n = true := L.lt.k.most
  have h128 : t.m < 128 := L.lt.k.n.2.2
  have oH : PQuo.Ok t.m (ackH t (akM pos num)).H 60 := PQuo.ok_upd h128 L.lt.k.h h3 hp.2
  have oP : PQuo.Ok t.m (ackH t (akM pos num)).P t.ql := by
    show PQuo.Ok t.m (if num ≤ t.ql then PQuo.upd t.P 2 num else t.P) t.ql
    split
    · exact PQuo.ok_upd h128 L.lt.k.p h3 (by assumption)
    · exact L.lt.k.p
  refine hear_ack (p := p) (t := t) (by rw [te_self L.te]; exact h) L.lt L.own L.inV R (PMsg.enc_byte _) ht hnb (PMsg.dec_enc (may_ak hp hn)) (herr_ak L.id L.G) rfl L.last.symm h2 hp _ (fun Q q hq => ?_) (fun r hr hc => ?_) (fun r hr hc s hs => ?_)
  · obtain ⟨-, rfl⟩ := hq
    rw [(ackF_LT p t _).1, (ackF_LT p t _).2]
    exact ⟨L.ok, by have := L.T; omega⟩
  · obtain rfl := IsR.dbest oH hm hr
    exact ⟨rfl, by unfold ackF; rw [if_pos hc]⟩
  · obtain rfl := IsR.dbest oH hm hr
    obtain rfl := IsR.dbest oP hm hs
    exact ⟨rfl, by unfold ackF; rw [if_neg (by omega)]⟩
end
end Go.Proofs.YtacipjdaiglnjaaGreatDoor

/- Counts, plain. -/
namespace Go.Proofs.YtacipjdaiglnjaaGreatDoor.PTally

def inn (k : Int) : Bool := decide (0 ≤ k ∧ k < 16)
def get (z : List Int) (k : Int) : Int := if inn k then z.getD k.toNat 0 else 0
def add (z : List Int) (k : Int) : List Int := if inn k then z.set k.toNat (z.getD k.toNat 0 + 1) else z
def zero : List Int := List.replicate 16 0
/-- All counts are 0 or more; their sum is at most m. -/
def ok (z : List Int) (m : Int) : Prop := z.length = 16 ∧ (∀ x ∈ z, 0 ≤ x) ∧ z.sum ≤ m

theorem ok.more {z : List Int} {m m' : Int} (h : ok z m) (hm : m ≤ m') : ok z m' := ⟨h.1, h.2.1, Int.le_trans h.2.2 hm⟩
/-- One kind alone, j times. -/
def one (k : Nat) (j : Nat) : List Int := zero.set k j
end Go.Proofs.YtacipjdaiglnjaaGreatDoor.PTally

/- Contracts of package tally. -/
namespace Go.Proofs.YtacipjdaiglnjaaGreatDoor
open Go.RowKit

section
variable {P : Program} {f : FuncId} {fn : Func}
end

/-- Sixteen numbers at block g (of a variable of type e). -/
def Ti (e : TypeId) (w : World) (g : Nat) (z : List Int) : Prop := z.length = 16 ∧ Blk w g e (z.map (Value.int .i64))
/-- The tally at block g. -/
abbrev Tl := Ti 87
section
variable {e : TypeId} {w w' : World} {g : Nat} {z : List Int}
theorem Ti.cell (h : Ti e w g z) {i : Nat} (hi : i < 16) : w.cell? ⟨g, i, none⟩ = some (.int .i64 (z.getD i 0)) := by
  refine h.2.cell ?_
  have hl : i < z.length := by rw [h.1]; exact hi
  rw [List.getElem?_map, List.getElem?_eq_getElem hl]; simp [List.getD, List.getElem?_eq_getElem hl]
theorem Ti.set (h : Ti e w g z) (i : Nat) (x : Int) : Ti e (w.setCell ⟨g, i, none⟩ (.int .i64 x)) g (z.set i x) :=
  ⟨by rw [List.length_set]; exact h.1, by rw [List.map_set]; exact h.2.set i _⟩
theorem Ti.far {k : Nat} (h : Ti e w g z) (hb : w.grownBy w' (some k)) (hk : g ≠ k) : Ti e w' g z := ⟨h.1, h.2.far hb hk⟩
theorem Ti.past (h : Ti e w g z) (hb : Below w.heap.size w w') : Ti e w' g z := ⟨h.1, h.2.past hb⟩
theorem Ti.drew (h : Ti e w g z) : Ti e w.drew g z := h
theorem Ti.new (w : World) (e : TypeId) : Ti e (w.alloc (.cells #[.int .i64 0, .int .i64 0, .int .i64 0, .int .i64 0, .int .i64 0, .int .i64 0, .int .i64 0, .int .i64 0, .int .i64 0, .int .i64 0, .int .i64 0, .int .i64 0, .int .i64 0, .int .i64 0, .int .i64 0, .int .i64 0] e)) w.heap.size PTally.zero :=
  ⟨rfl, Blk.new w _ _⟩
end

theorem aLoad_c (w : World) (g i : Nat) (x : Int) (hc : w.cell? ⟨g, i, none⟩ = some (.int .i64 x)) :
    Calls Tryz.prog 79 #[.pointer (some ⟨g, i, none⟩)] w fun e w' => e = .returned (.int .i64 x) ∧ w = w' := by
  have hld := run_call_load (P := Tryz.prog) Tryz.func133 (by kernel_rfl) (by kernel_rfl) (by kernel_rfl) .i64 (by kernel_rfl) hc
  go_enter Tryz.func79, Tryz.ntmps79
  go_wp2
  go_ret
  exact ⟨rfl, rfl⟩

theorem aAdd_c (w : World) (g i : Nat) (x y s : Int) (hc : w.cell? ⟨g, i, none⟩ = some (.int .i64 x)) (hz : w.frozen? ⟨g, i, none⟩ = false) (hs : x + y = s) (h1 : -9223372036854775808 ≤ s) (h2 : s ≤ 9223372036854775807) :
    Calls Tryz.prog 75 #[.pointer (some ⟨g, i, none⟩), .int .i64 y] w fun e w' => e = .returned (.int .i64 s) ∧ w' = w.setCell ⟨g, i, none⟩ (.int .i64 s) := by
  have hld := run_call_add (P := Tryz.prog) Tryz.func131 (by kernel_rfl) (by kernel_rfl) (by kernel_rfl) .i64 (by kernel_rfl) (y := y) (s := s) hc hz (by simp [go_sem, IntKind.wrap_i64]; omega)
  clear hs h1 h2
  go_enter Tryz.func75, Tryz.ntmps75
  go_wp2
  go_ret
  exact ⟨rfl, rfl⟩

end Go.Proofs.YtacipjdaiglnjaaGreatDoor

/- Contracts of package client: New, Cast, Poll, Lost; of none. -/
namespace Go.Proofs.YtacipjdaiglnjaaGreatDoor
open Go.RowKit PNode

theorem clNew_c (w : World) (q : Option Addr) : Calls Tryz.prog 26 #[.pointer q] w fun e w' => e = .returned (.pointer (some ⟨w.heap.size, 0, none⟩)) ∧ Cl w' w.heap.size q 0 0 ∧ Below w.heap.size w w' := by
  go_enter Tryz.func26, Tryz.ntmps26
  go_wp2_with fail
  go_ret
  exact ⟨rfl, Blk.new w _ _, (Below.refl _ _).alloc (Nat.le_refl _) _⟩

/-! Counts of the tally in a client. -/
theorem cnt_c (w : World) (g : Nat) : Calls Tryz.prog 74 #[.pointer (some ⟨g, 2, none⟩), .int .i64 0] w fun e w' => e = .returned (.bool true) ∧ w = w' := by
  go_enter Tryz.func74, Tryz.ntmps74
  go_wp2
  go_ret
  exact ⟨rfl, rfl⟩
section
variable {w : World} {g : Nat} {q : Option Addr} {k l : Int} (h : Cl w g q k l)
include h
theorem cl2 : w.cell? ⟨g, 2, none⟩ = some (.int .i64 l) := Blk.cell h rfl
theorem clGetT : Calls Tryz.prog 41 #[.pointer (some ⟨g, 2, none⟩), .int .i64 0] w fun e w' => e = .returned (.int .i64 l) ∧ w = w' := by
  have c2 := cl2 h
  clear h
  go_enter Tryz.func41, Tryz.ntmps41
  go_wp2_with fail
  refine (cnt_c w g).mono ?_
  rintro e w' ⟨rfl, rfl⟩
  go_wp2_with fail
  refine (aLoad_c w g 2 _ c2).mono ?_
  rintro e w' ⟨rfl, rfl⟩
  go_wp2_with fail
  go_ret
  exact ⟨rfl, rfl⟩
theorem clAddT (h0 : 0 ≤ l) (h1 : l ≤ 1000000) : Calls Tryz.prog 33 #[.pointer (some ⟨g, 2, none⟩), .int .i64 0] w fun e w' => e = .returned (.int .i64 (l + 1)) ∧ Cl w' g q k (l + 1) ∧ Touch [g] w w' := by
  have c2 := cl2 h
  have f2 : w.frozen? ⟨g, 2, none⟩ = false := Blk.free h 2
  have hs : Cl (w.setCell ⟨g, 2, none⟩ (.int .i64 (l + 1))) g q k (l + 1) := Blk.set h 2 (.int .i64 (l + 1))
  have HS := Lib.hid hs
  clear h hs
  go_enter Tryz.func33, Tryz.ntmps33
  go_wp2_with fail
  refine (cnt_c w g).mono ?_
  rintro e w' ⟨rfl, rfl⟩
  go_wp2_with fail
  refine (aAdd_c w g 2 l 1 (l + 1) c2 f2 rfl (by omega) (by omega)).mono ?_
  rintro e w' ⟨rfl, rfl⟩
  go_wp2_with fail
  go_ret
  exact ⟨rfl, HS.out, (Touch.refl [g] w).cell (by simp) 2 _⟩
theorem clLost_c : Calls Tryz.prog 21 #[.pointer (some ⟨g, 0, none⟩)] w fun e w' => e = .returned (.int .i64 l) ∧ w = w' := by
  have H := Lib.hid h
  clear h
  go_enter Tryz.func21, Tryz.ntmps21
  go_wp2_with fail
  refine (clGetT H.out).mono ?_
  rintro e w' ⟨rfl, rfl⟩
  go_wp2_with fail
  go_ret
  exact ⟨rfl, rfl⟩
theorem clUp_c {a : Addr} (hq : q = some a) : Calls Tryz.prog 35 #[.pointer (some ⟨g, 0, none⟩)] w fun e w' => e = .returned (.bool true) ∧ w = w' := by
  subst hq
  have c0 : w.cell? ⟨g, 0, none⟩ = some (.pointer (some a)) := Blk.cell h rfl
  clear h
  go_enter Tryz.func35, Tryz.ntmps35
  go_wp2_with fail
  go_ret
  exact ⟨rfl, rfl⟩
theorem clUp_no (hq : q = none) : Calls Tryz.prog 35 #[.pointer (some ⟨g, 0, none⟩)] w fun e w' => e = .returned (.bool false) ∧ w = w' := by
  subst hq
  have c0 : w.cell? ⟨g, 0, none⟩ = some (.pointer none) := Blk.cell h rfl
  clear h
  go_enter Tryz.func35, Tryz.ntmps35
  go_wp2_with fail
  go_ret
  exact ⟨rfl, rfl⟩
end

/-! With a process. -/
section
variable {w0 w : World} {x d g : Nat} {B : List Nat} {p : Np} {k l : Int}
/-- What Cast answers, and makes of the process. -/
def castC (p : Np) (ord lev : Int) (dt : ByteArray) (er : Int) (p' : Np) : Prop :=
  (er = 6 ∧ inV p = false ∧ p' = p) ∨ (inV p = true ∧ ((er = 1 ∧ PEnt.may (PPend.nxt p.id p.boot p.seq ord lev dt) = false ∧ p' = p) ∨ (er = 9 ∧ PEnt.may (PPend.nxt p.id p.boot p.seq ord lev dt) = true ∧ p.pend.length = 4 ∧ p' = p) ∨
    (er = 0 ∧ PEnt.may (PPend.nxt p.id p.boot p.seq ord lev dt) = true ∧ p.pend.length < 4 ∧ p' = cstP p (PPend.nxt p.id p.boot p.seq ord lev dt))))
theorem La.ncast (h : La w0 w x d g B p k l) (ord lev : Int) (dt : ByteArray) :
    Calls Tryz.prog 32 #[.pointer (some ⟨x, 0, none⟩), .int .i64 ord, .int .i64 lev, .string dt] w fun e w' => ∃ er p', castC p ord lev dt er p' ∧ e = .returned (.int .i64 er) ∧ La w0 w' x d g B p' k l ∧ Sty B w w' := by
  obtain ⟨F, h1, h2, h3⟩ := h.ex
  cases hf : inV p
  · refine (ndCast_out h1 hf ord lev dt).mono ?_
    rintro e w' ⟨rfl, b⟩
    exact ⟨6, p, .inl ⟨rfl, hf, rfl⟩, rfl, h.past b, .of_below b⟩
  · refine (ndCast_in h1 hf ord lev dt _ rfl).mono ?_
    rintro e w' (⟨q1, rfl, b⟩ | ⟨q1, q2, rfl, b⟩ | ⟨q1, q2, rfl, n2⟩)
    · exact ⟨1, p, .inr ⟨hf, .inl ⟨rfl, q1, rfl⟩⟩, rfl, h.past b, .of_below b⟩
    · exact ⟨9, p, .inr ⟨hf, .inr (.inl ⟨rfl, q1, q2, rfl⟩)⟩, rfl, h.past b, .of_below b⟩
    · obtain ⟨k1, k2⟩ := h.node h1 h2 h3 n2
      exact ⟨0, _, .inr ⟨hf, .inr (.inr ⟨rfl, q1, q2, rfl⟩)⟩, rfl, k1, k2⟩
def lostC (l er : Int) : Int := if er = 0 then l else l + 1
set_option maxHeartbeats 2000000 in
theorem La.cast (h : La w0 w x d g B p k l) (ord lev : Int) (dt : ByteArray) (h0 : 0 ≤ l) (h1 : l ≤ 1000000) :
    Calls Tryz.prog 12 #[.pointer (some ⟨g, 0, none⟩), .int .i64 ord, .int .i64 lev, .string dt] w fun e w' => ∃ er p', castC p ord lev dt er p' ∧ e = .returned (.int .i64 er) ∧ La w0 w' x d g B p' k (lostC l er) ∧ Sty B w w' := by
  have H := Lib.hid h
  have c0 : w.cell? ⟨g, 0, none⟩ = some (.pointer (some ⟨x, 0, none⟩)) := Blk.cell h.cl rfl
  clear h
  go_enter Tryz.func12, Tryz.ntmps12
  go_wp2_with fail
  refine (H.out.ncast ord lev dt).mono ?_
  rintro e w1 ⟨er, p', q1, rfl, h2, s2⟩
  have Q1 := Lib.hid q1
  have H2 := Lib.hid h2
  have S2 := Lib.hid s2
  clear q1 h2 s2 c0
  by_cases he : er = 0
  · subst he
    go_wp2_with fail
    go_ret
    exact ⟨0, p', Q1.out, rfl, H2.out, S2.out⟩
  · have e1 : (er == 0) = false := by simpa using he
    have e2 : (er != 0) = true := by simpa using he
    go_wp2_with fail
    refine (clAddT H2.out.cl h0 h1).mono ?_
    rintro e w2 ⟨rfl, k3, t3⟩
    have K3 := Lib.hid k3
    have T3 := Lib.hid t3
    clear k3 t3
    go_wp2_with fail
    go_ret
    obtain ⟨a1, a2⟩ := H2.out.client T3.out K3.out
    exact ⟨er, p', Q1.out, rfl, by unfold lostC; rw [if_neg he]; exact a1, S2.out.trans a2⟩

theorem La.told (h : La w0 w x d g B p k l) :
    Calls Tryz.prog 19 #[.pointer (some ⟨x, 0, none⟩)] w fun e w' => ∃ A c, e = .returned (.slice A p.T.length c) ∧ Ow w' w.heap.size 95 8 A p.T.length c (tls p.T) ∧ Below w.heap.size w w' := by
  obtain ⟨F, h1, h2, h3⟩ := h.ex
  exact ndToldG h1
set_option maxHeartbeats 4000000 in
set_option maxRecDepth 100000 in
theorem La.poll (h : La w0 w x d g B p k l) (hk : 0 ≤ k ∧ k ≤ p.T.length) (hT : p.T.length ≤ 1000000) :
    Calls Tryz.prog 13 #[.pointer (some ⟨g, 0, none⟩)] w fun e w' => ∃ A c, e = .returned (.slice A (p.T.drop k.toNat).length c) ∧ Ow w' w.heap.size 95 8 A (p.T.drop k.toNat).length c (tls (p.T.drop k.toNat)) ∧ La w0 w' x d g B p p.T.length l ∧ Sty B w w' ∧ Touch [g] w w' := by
  obtain ⟨K, rfl⟩ : ∃ K : Nat, k = (K : Int) := ⟨k.toNat, by omega⟩
  have H := Lib.hid h
  have c0 : w.cell? ⟨g, 0, none⟩ = some (.pointer (some ⟨x, 0, none⟩)) := Blk.cell h.cl rfl
  have HT := Lib.hid hT
  have HK := Lib.hid (show K ≤ p.T.length by omega)
  clear h hk hT
  go_enter Tryz.func13, Tryz.ntmps13
  go_wp2_with fail
  refine H.out.told.mono ?_
  rintro e w1 ⟨A, c, rfl, o1, b1⟩
  have H1 := Lib.hid (H.out.past b1)
  have O1 := Lib.hid o1
  have B1 := Lib.hid b1
  have c1 : w1.cell? ⟨g, 1, none⟩ = some (.int .i64 (K : Int)) := Blk.cell H1.out.cl rfl
  clear o1 b1 c0
  have E0 := Lib.hid (show p.T.length - K = (p.T.drop K).length by rw [List.length_drop])
  go_wp2_with ((with_reducible show wpList _ _ _ ((⟨some 17, Op.slice _ _ _ _ _, _, _, _, _⟩ : Oper) :: _) _ _); go_must (refine wpList_cut rfl 28 (.tmp 12) (some (.tmp 16)) none rfl 95 _ 8 72 Tryz.underlying28 told_info w1.heap.size A c p.T.length (tls p.T) rfl O1.out.rd K p.T.length (.inr rfl) (.inl ⟨rfl, rfl⟩) HK.out (Nat.le_refl _) ?_))
  intro A2 c2 r2
  generalize hm : p.T.length - K = m at *
  have HM := Lib.hid (show (p.T.drop K).length = m by rw [List.length_drop]; exact hm)
  have R2 := Lib.hid (show Rd w1 w1.heap.size A2 c2 8 m (tls (p.T.drop K)) by
    rw [tls_drop, List.take_of_length_le (by rw [tls_length, HM.out]; exact Nat.le_refl _)] at r2
    exact r2)
  have HM6 := Lib.hid (show m ≤ 1000000 by have := HT.out; omega)
  clear r2 E0 c1 hm
  go_wp2_with fail
  refine (cloneT_c w1 _ A2 c2 _ (p.T.drop K) R2.out HM6.out).mono ?_
  rintro e w2 ⟨A3, c3, rfl, o3, b3⟩
  have O3 := Lib.hid (Ow.of_own o3)
  have H3 := Lib.hid (H1.out.past b3)
  have B3 := Lib.hid (B1.out.trans (b3.mono B1.out.size))
  have f1 : w2.frozen? ⟨g, 1, none⟩ = false := Blk.free H3.out.cl 1
  have c12 : w2.cell? ⟨g, 1, none⟩ = some (.int .i64 (K : Int)) := Blk.cell H3.out.cl rfl
  have K4 := Lib.hid (show Cl (w2.setCell ⟨g, 1, none⟩ (.int .i64 p.T.length)) g (some ⟨x, 0, none⟩) p.T.length l from Blk.set H3.out.cl 1 _)
  have T4 := Lib.hid ((Touch.refl [g] w2).cell (g := g) (by simp) 1 (.int .i64 p.T.length))
  have hne : bk A3 ≠ some g := O3.out.ne H3.out.cl (by decide)
  have O4 := Lib.hid (O3.out.touch T4.out (fun z hz => by rw [List.mem_singleton.1 hz]; exact hne))
  clear o3 b3 R2 hne
  go_wp2_with fail
  go_ret
  obtain ⟨a1, a2⟩ := H3.out.client T4.out K4.out
  show ∃ A c, _ = Ending.returned (.slice A (p.T.drop K).length c) ∧ Ow _ w.heap.size 95 8 A (p.T.drop K).length c (tls (p.T.drop K)) ∧ _
  rw [HM.out]
  refine ⟨A3, c3, rfl, O4.out.down B1.out.size, a1, (Sty.of_below B3.out).trans a2, (Touch.of_below B3.out).trans T4.out⟩
end
end Go.Proofs.YtacipjdaiglnjaaGreatDoor

/- The trio of layer 26: a process that decides a view of two of three, and who asks it; what it is told of the other's answers (acks). -/
namespace Go.Proofs.YtacipjdaiglnjaaGreatDoor
open Go.RowKit PNode

set_option maxHeartbeats 8000000 in
set_option maxRecDepth 100000 in
theorem trio_c (w : World) (ht : Tab w) : Calls Tryz.prog 9 #[] w fun e w' => ∃ x d g, e = .returned (.tuple #[.pointer (some ⟨x, 0, none⟩), .pointer (some ⟨g, 0, none⟩)]) ∧ La w w' x d g [] stI 0 0 ∧ Nr (clkP stH) := by
  have HT := Lib.hid ht
  clear ht
  have b1 := Lib.hid ((Below.refl w.heap.size w).alloc (Nat.le_refl _) (.cells #[.int .i64 0, .int .i64 0] 62))
  have D1 : Hid (Ds (w.alloc (.cells #[.int .i64 0, .int .i64 0] 62)) w.heap.size 0 0) := Lib.hid (Blk.new w _ _)
  go_enter Tryz.func9, Tryz.ntmps9
  go_wp2_with fail
  refine (Sn.make (w0 := w) b1.out (id := 1) (n := 3) D1.out (Nat.le_refl _) (by omega) (by omega) (by omega) (by omega) (by omega) (by omega) (by omega) (by omega)).mono ?_
  rintro e w2 ⟨x, rfl, n2, -⟩
  have N2 := Lib.hid (show Sn w w2 x w.heap.size (stB 0) from n2)
  clear n2 D1 b1
  obtain ⟨d, hd⟩ : ∃ d, w.heap.size = d := ⟨_, rfl⟩
  rw [hd] at N2
  have HD := Lib.hid hd
  clear hd
  go_wp2_with fail
  go_loopw [4] (fun s6 wr => ∃ k : Nat, s6 = .int .i64 (k : Int) ∧ ((k ≤ 9 ∧ Hid (Sn w wr x d (stB k))) ∨ (k = 10 ∧ Hid (Sn w wr x d (prpP (stB 10) 1))))) (fun s6 _ => 10 - (intOf s6).toNat)
  case atStart => exact ⟨0, rfl, .inl ⟨by omega, N2⟩⟩
  case round =>
    obtain ⟨k, rfl, hk⟩ := hrel
    clear N2
    rcases hk with ⟨hk, N4⟩ | ⟨rfl, N5⟩
    · by_cases hlt : k < 9
      · go_wp2_with fail
        refine (N4.out.post (C := cNone (stB (k + 1))) (fun F hF => tick_of hF (by show (k : Int) < _; omega) _ (fun Q p' h => by rw [h.2]; exact ⟨rfl, rfl⟩) (fun w1 F1 h1 => act_none (p := stB (k + 1)) h1 rfl rfl rfl rfl (by show decide (8 + 2 * (1 : Int) ≤ (k : Int) + 1 - 0) = false; simp; omega)))).mono ?_
        rintro e w5 ⟨Q, p', A, c, ⟨rfl, rfl⟩, rfl, -, n5, -⟩
        have N5 := Lib.hid n5
        clear n5
        go_wp2_with fail
        go_roundw
        case rel => exact ⟨k + 1, by go_num, .inl ⟨by omega, N5⟩⟩
        case measure => simp [intOf]; omega
      · obtain rfl : k = 9 := by omega
        go_wp2_with fail
        refine (N4.out.post (C := cProp (stB 10) 3) (fun F hF => tick_of hF (by show (9 : Int) < _; omega) _ (fun Q p' h => by obtain ⟨v, -, -, rfl⟩ := h; exact ⟨rfl, rfl⟩) (fun w1 F1 h1 => act_late (p := stB 10) h1 3 rfl rfl rfl rfl rfl (by show (0 : Int) ≤ _; omega) (by show (0 : Int) ≤ _; omega) rfl rfl))).mono ?_
        rintro e w5 ⟨Q, p', A, c, ⟨v, hv, rfl, rfl⟩, rfl, -, n5, -⟩
        obtain rfl := bg_next hv
        have N5 := Lib.hid (show Sn w w5 x d (prpP (stB 10) 1) from n5)
        clear hv n5
        go_wp2_with fail
        go_roundw
        case rel => exact ⟨10, by go_num, .inr ⟨rfl, N5⟩⟩
        case measure => simp [intOf]
    · go_wp2_with fail
      refine (rBytes_c wr bgM none 0 (Rd.nil _ _ _)).mono ?_
      rintro e w6 ⟨A6, c6, rfl, o6, b6⟩
      have N6 := Lib.hid (N5.out.past b6)
      have R6 := Lib.hid (Rd.of_own o6).tight
      have T6 := Lib.hid (HT.out.past N6.out.bel)
      clear o6 b6 N5
      go_wp2_with fail
      refine (N6.out.post (C := cDone stH) (fun F hF => hear_of hF R6.out (PMsg.enc_byte bgM) T6.out (Nat.le_trans (PMsg.enc_len bgM) (by decide)) (PMsg.dec_enc bg_may) rfl _ (fun Q p' h => by rw [h.2]; exact ⟨rfl, rfl⟩) (fun w1 F1 A1 c1 h1 => hd_vote h1 bgM A1 c1 rfl (v := 1) (V := bgV1) rfl rfl) (fun w1 F1 A1 c1 h1 r1 => heed_vote h1 bgM A1 c1 rfl (v := 1) (V := bgV1) rfl r1))).mono ?_
      rintro e w7 ⟨Q, p', A, c, ⟨rfl, rfl⟩, rfl, -, n7, -⟩
      have N7 := Lib.hid n7
      clear n7 R6 T6 N6
      go_wp2_with fail
      obtain ⟨bf, bl, bc, hbest⟩ := bg_best
      have HBE := Lib.hid hbest
      have HRR := Lib.hid (N7.out.r.clk (by show (10 : Int) < _; omega))
      clear hbest
      refine (N7.out.post (fun F hF => tick_of hF (by show (10 : Int) < _; omega) (fun Q p' => Q.map Mp.m = (PTeam.lst (PTeam.wout (PVote.tm bgV2) 1)).map (fun dst => sends (stI) dst (instM (stI))) ∧ p' = stI) (fun Q p' h => by rw [h.2]; exact ⟨rfl, rfl⟩) (fun w1 F1 h1 => act_votes h1 rfl rfl _ (fun w2 h2 => gather_inst h2 (v := 1) (V := bgV2) rfl rfl bg_most2 bg_has2 HBE.out)))).mono ?_
      rintro e w8 ⟨Q, p', A, c, ⟨hQ, rfl⟩, rfl, o8, n8, -⟩
      have N8 := Lib.hid n8
      clear n8 o8 hQ N7 HBE
      go_wp2_with fail
      refine (clNew_c w8 _).mono ?_
      rintro e w9 ⟨rfl, k9, b9⟩
      have N9 := Lib.hid (N8.out.past b9)
      have K9 := Lib.hid k9
      have h8 := N8.out.bel.size
      clear k9 b9
      go_wp2_with fail
      go_ret2
      obtain ⟨F, f1, f2⟩ := N9.out.ex
      exact ⟨x, d, w8.heap.size, rfl, ⟨⟨F, f1, f2, by simp⟩, K9.out, h8, by simp, by simp, N9.out.bel⟩, HRR.out⟩

/-- It begins so. -/
theorem ld0 (hr : Nr (clkP stH)) : Ld 0 stI (term0 (clkP stH) bgV2) := by
  refine ⟨rfl, rfl, rfl, rfl, rfl, rfl, bg_tm2, rfl, rfl, rfl, Lt.inst hr bg_most2 bg_has2 (by show (1048576 : Int) < _; omega), fun q hq => (by cases hq), rfl, ?_, Nat.le_refl _, ?_, ?_, Nat.le_refl _, rfl⟩
  · show (11 : Int) ≤ 11 + ((0 : Nat) : Int); omega
  · show (1048576 : Int) ≤ 1048576 + ((0 : Nat) : Int); omega
  · show (0 : Int) ≤ ((0 : Nat) : Int); omega

set_option maxHeartbeats 8000000 in
set_option maxRecDepth 100000 in
/-- One message is answered. -/
theorem La.acks1 {w0 w : World} {x d g j : Nat} {B : List Nat} {p : Np} {t : Te} {k l : Int} (h : La w0 w x d g B p k l) (L : Ld j p t) (hj : j ≤ 1000) (ht : Tab w0) {q : Mp} {base c : Nat} {A : Option Addr} (o : Ow w base 31 13 A 1 c (mgs [q])) (hk : q.m.kind = 4 ∨ q.m.kind = 5) (hn : 0 ≤ q.m.num ∧ q.m.num ≤ 1099511627776) :
    Calls Tryz.prog 11 #[.pointer (some ⟨x, 0, none⟩), .slice A 1 c] w fun e w' => e = .returned (.tuple #[]) ∧ La w0 w' x d g B (setP (ackF p t (akM p.L.length q.m.num))) k l ∧ Sty B w w' := by
  obtain ⟨F, h1, h2, h3⟩ := h.ex
  have HH := Lib.hid h
  have HL := Lib.hid L
  have HT := Lib.hid ht
  have HN := Lib.hid hn
  have HB := Lib.hid h.bel
  have HLL := Lib.hid (show 0 ≤ (p.L.length : Int) ∧ (p.L.length : Int) ≤ 60 by have := okN_60 L.ok; omega)
  have H1 := Lib.hid h1
  have H2 := Lib.hid h2
  have H3 := Lib.hid h3
  obtain ⟨gm, rfl, -, -⟩ := o.some (by omega)
  have k0 : w.cell? ⟨gm, 0, none⟩ = some (.int .i64 q.m.kind) := (o.cell rfl (i := 0) rfl).1
  have O1 := Lib.hid (show Ow w.drew base 31 13 (some ⟨gm, 0, none⟩) 1 c (mgs [q]) from o.past (Below.refl _ _).drew)
  have N1 := Lib.hid (h1.past (Below.refl _ _).drew)
  have B1 := Lib.hid (Below.refl w.heap.size w).drew
  have HO := Lib.hid (show ∀ z ∈ F, bk (some ⟨gm, 0, none⟩) ≠ some z from fun z hz hA => by
    obtain ⟨ys, hy⟩ := O1.out.blk hA
    exact N1.out.off hy (by decide) hz)
  obtain ⟨kd, hkd⟩ : ∃ kd, q.m.kind = kd := ⟨_, rfl⟩
  rw [hkd] at hk k0
  clear hkd h L ht hn h1 h2 h3 o
  go_enter Tryz.func11, Tryz.ntmps11
  go_wp2_with fail
  go_loopw [4] (fun s wr => (s = .int .i64 0 ∧ wr = w) ∨ (s = .int .i64 1 ∧ Hid (NdW w wr x d F (setP (ackF p t (akM p.L.length q.m.num)))))) (fun s _ => 1 - (intOf s).toNat)
  case atStart => exact .inl ⟨rfl, rfl⟩
  case round =>
    rcases hrel with ⟨rfl, rfl⟩ | ⟨rfl, NW⟩
    · rcases hk with rfl | rfl
      all_goals
        go_wp2_with fail
        clear k0
-- REGION curfew/curfewlaw26.acks 4 clack4 8
        refine Hs.begin (F) ?_
        refine Hs.take (v := .pointer (some ⟨x, 0, none⟩)) 0 25 rfl ?_ (fun _ _ => rfl)
        refine Hs.take (v := .pointer (some ⟨x, 0, none⟩)) 1 26 rfl ?_ (fun _ _ => rfl)
        refine Hs.take (v := .slice (some ⟨gm, 0, none⟩) 1 c) 4 29 rfl ?_ (fun _ _ => rfl)
        refine Hs.take (v := .int .i64 0) 5 30 rfl ?_ (fun _ _ => rfl)
        refine Hs.take (v := .pointer (some ⟨gm, 0, none⟩)) 6 31 rfl ?_ (fun w' hw' => by go_simp; first | done | rfl | (simp; omega))
        refine Hs.take (v := .pointer (some ⟨gm, 10, none⟩)) 7 32 rfl ?_ (fun w' hw' => by go_simp; first | done | rfl | (simp; omega))
        refine Hs.take (v := .int .i64 q.m.num) 8 33 rfl ?_ (fun w' hw' => by exact ldI64 (((O1.out.touch hw' HO.out).cell rfl (i := 10) (u := .int .i64 q.m.num) rfl).1) rfl)
        refine Hs.call (f := 17) (args := #[.pointer (some ⟨x, 0, none⟩)]) 2 27 rfl ?_ (run_callf Tryz.func17 (by kernel_rfl) (by kernel_rfl) (by simp only [List.map_toArray, List.map_cons, List.map_nil]; rfl))
        refine (ndLogG N1.out).mono ?_
        rintro e w2 ⟨A2, c2, rfl, o2, b2⟩
        have N2 := Lib.hid (N1.out.past b2)
        have B2 := Lib.hid (B1.out.trans (b2.mono B1.out.size))
        clear o2
        refine Hs.back (Touch.of_below b2) ?_
        refine Hs.take (v := .int .i64 p.L.length) 3 28 rfl ?_ (fun w' hw' => by go_simp; first | done | rfl | omega | exact wrap_in (by omega) (by omega) | exact Int.tmod_eq_emod_of_nonneg (by omega) | exact Int.tdiv_eq_ediv_of_nonneg (by omega) | (simp; omega))
        refine Hs.take (v := mv (akM p.L.length q.m.num) none 0) 9 34 rfl ?_ (fun w' hw' => by go_simp; first | done | rfl | omega | exact wrap_in (by omega) (by omega) | exact Int.tmod_eq_emod_of_nonneg (by omega) | exact Int.tdiv_eq_ediv_of_nonneg (by omega) | (simp; omega))
        refine Hs.call (f := 29) (args := #[mv (akM p.L.length q.m.num) none 0]) 10 35 rfl ?_ (run_callf Tryz.func29 (by kernel_rfl) (by kernel_rfl) (by simp only [List.map_toArray, List.map_cons, List.map_nil]; rfl))
        refine (rBytes_c w2 (akM p.L.length q.m.num) none 0 (Rd.nil _ _ _)).mono ?_
        rintro e w6 ⟨A6, c6, rfl, o6, b6⟩
        have N6 := Lib.hid (N2.out.past b6)
        have B6 := Lib.hid (B2.out.trans (b6.mono B2.out.size))
        have R6 := Lib.hid (Rd.of_own o6).tight
        have T6 := Lib.hid (HT.out.past (HB.out.trans (B6.out.mono HB.out.size)))
        clear o6
        refine Hs.back (Touch.of_below b6) ?_
        refine Hs.call (f := 28) (args := #[.pointer (some ⟨x, 0, none⟩), .slice A6 (PMsg.enc (akM p.L.length q.m.num)).length c6]) 11 36 rfl ?_ (run_callf Tryz.func28 (by kernel_rfl) (by kernel_rfl) (by simp only [List.map_toArray, List.map_cons, List.map_nil]; rfl))
        refine (N6.out.ackd HL.out hj HLL.out HN.out R6.out (Nat.le_trans (PMsg.enc_len _) (by decide)) T6.out).mono ?_
        rintro e w7 ⟨Q7, p7, A7, c7, ⟨p8, ⟨rfl, rfl⟩, rfl⟩, rfl, o7, n7⟩
        have N7 := Lib.hid (n7.behind B6.out)
        clear o7
        refine Hs.back n7.touch ?_
        refine Hs.done ?_
-- END
        go_wp2_with fail
        go_roundw
        case rel => exact .inr ⟨rfl, N7⟩
        case measure => simp [intOf]
    · go_wp2_with fail
      go_end0
      obtain ⟨a1, a2⟩ := HH.out.node H1.out H2.out H3.out NW.out
      exact ⟨rfl, a1, a2⟩

set_option maxHeartbeats 8000000 in
set_option maxRecDepth 100000 in
/-- Messages that are not answered. -/
theorem acks0 (w : World) (q0 : Option Addr) {Q : List Mp} {base c : Nat} {A : Option Addr} (o : Ow w base 31 13 A Q.length c (mgs Q)) (hk : ∀ q ∈ Q, q.m.kind = 1) :
    Calls Tryz.prog 11 #[.pointer q0, .slice A Q.length c] w fun e w' => e = .returned (.tuple #[]) ∧ w = w' := by
  have O := Lib.hid o
  have HK := Lib.hid hk
  have hcap : (Q.length : Int) ≤ 9223372036854775807 := by have h1 := O.out.rd.le; have h2 := O.out.rd.cap; unfold maxLen at h2; omega
  clear o hk
  go_enter Tryz.func11, Tryz.ntmps11
  go_wp2_with fail
  go_loopw [4] (fun s wr => ∃ i : Nat, s = .int .i64 (i : Int) ∧ i ≤ Q.length ∧ wr = w) (fun s _ => (Q.length - intOf s).toNat)
  case atStart => exact ⟨0, rfl, Nat.zero_le _, rfl⟩
  case round =>
    obtain ⟨i, rfl, hi, rfl⟩ := hrel
    by_cases hlt : i < Q.length
    · have hq : Q[i]? = some Q[i] := List.getElem?_eq_getElem hlt
      obtain ⟨gm, hA, hc⟩ := ms_at O.out hq
      subst hA
      have k0 : wr.cell? ⟨gm, i * 13, none⟩ = some (.int .i64 1) := by
        have := hc 0 (.int .i64 Q[i].m.kind) rfl
        rw [HK.out _ (List.getElem_mem hlt)] at this
        simpa using this
      clear hc hq
      go_wp2_with fail
      go_roundw
      case rel => exact ⟨i + 1, by go_num, by omega, by first | trivial | rfl⟩
      case measure => simp [intOf]; omega
    · obtain rfl : i = Q.length := by omega
      go_wp2_with fail
      go_end0
      exact ⟨rfl, rfl⟩

/-- What any tick's messages leave. -/
theorem La.acksW {w0 w : World} {x d g j : Nat} {B : List Nat} {p : Np} {k l : Int} (h : La w0 w x d g B p k l) (s : Sw j p) (hj : j ≤ 1000) (ht : Tab w0) {Q : List Mp} {base c : Nat} {A : Option Addr} (o : Ow w base 31 13 A Q.length c (mgs Q)) (hq : cMs j Q p) :
    Calls Tryz.prog 11 #[.pointer (some ⟨x, 0, none⟩), .slice A Q.length c] w fun e w' => ∃ p', e = .returned (.tuple #[]) ∧ Sw (j + 1) p' ∧ p.T <+: p'.T ∧ La w0 w' x d g B p' k l ∧ Sty B w w' := by
  rcases hq with ⟨q, t, rfl, h1, h2, L⟩ | hq
  · refine (h.acks1 L hj ht o h1 h2).mono ?_
    rintro e w' ⟨rfl, a1, a2⟩
    obtain ⟨b1, b2⟩ := L.ack h.r (pos := p.L.length) (num := q.m.num) (by have := okN_60 L.ok; omega)
    exact ⟨_, rfl, .inl b1, b2, a1, a2⟩
  · refine (acks0 w (some ⟨x, 0, none⟩) o hq).mono ?_
    rintro e w' ⟨rfl, rfl⟩
    exact ⟨p, rfl, s.more, List.prefix_refl _, h, .of_below (Below.refl _ _)⟩
end Go.Proofs.YtacipjdaiglnjaaGreatDoor

/- Contracts of package client: Status, Get; of none. -/
namespace Go.Proofs.YtacipjdaiglnjaaGreatDoor
open Go.RowKit PNode

/-- The state, as cells. -/
def sts' (p : Np) : List Value := [.bool true, .bool (inV p), .bool (gdO p), .int .i64 (vwO p), .int .i64 p.L.length, .int .i64 p.com, .int .i64 p.T.length, .int .i64 p.pend.length]
def stv (p : Np) : Value := .agg #[.bool true, .bool (inV p), .bool (gdO p), .int .i64 (vwO p), .int .i64 p.L.length, .int .i64 p.com, .int .i64 p.T.length, .int .i64 p.pend.length]
def stv0 : Value := .agg #[.bool false, .bool false, .bool false, .int .i64 0, .int .i64 0, .int .i64 0, .int .i64 0, .int .i64 0]

section
variable {w0 w : World} {x d g : Nat} {B : List Nat} {p : Np} {k l : Int}
theorem La.view (h : La w0 w x d g B p k l) : Calls Tryz.prog 15 #[.pointer (some ⟨x, 0, none⟩)] w fun e w' => ∃ m, e = .returned (.tuple #[.int .i64 (vwO p), .int .i64 m, .bool (inV p)]) ∧ Below w.heap.size w w' := by
  obtain ⟨F, h1, -⟩ := h.ex; exact ndViewA h1
theorem La.good (h : La w0 w x d g B p k l) : Calls Tryz.prog 16 #[.pointer (some ⟨x, 0, none⟩)] w fun e w' => e = .returned (.bool (gdO p)) ∧ Below w.heap.size w w' := by
  obtain ⟨F, h1, -⟩ := h.ex; exact ndGoodA h1
theorem La.log (h : La w0 w x d g B p k l) : Calls Tryz.prog 17 #[.pointer (some ⟨x, 0, none⟩)] w fun e w' => ∃ A c, e = .returned (.slice A p.L.length c) ∧ Below w.heap.size w w' := by
  obtain ⟨F, h1, -⟩ := h.ex; exact (ndLogG h1).mono fun e w' ⟨A, c, q1, _, q3⟩ => ⟨A, c, q1, q3⟩
theorem La.commit (h : La w0 w x d g B p k l) : Calls Tryz.prog 18 #[.pointer (some ⟨x, 0, none⟩)] w fun e w' => e = .returned (.int .i64 p.com) ∧ w = w' := by
  obtain ⟨F, h1, -⟩ := h.ex; exact ndCommit_c h1
theorem La.waits (h : La w0 w x d g B p k l) : Calls Tryz.prog 20 #[.pointer (some ⟨x, 0, none⟩)] w fun e w' => e = .returned (.int .i64 p.pend.length) ∧ w = w' := by
  obtain ⟨F, h1, -⟩ := h.ex; exact ndWaits_c h1
theorem La.table (h : La w0 w x d g B p k l) (hT : p.T.length ≤ 900000) : Calls Tryz.prog 23 #[.pointer (some ⟨x, 0, none⟩)] w fun e w' => ∃ g' F' c', e = .returned (.pointer (some ⟨g', 0, none⟩)) ∧ Tb w' g' F' c' (copT p.tab) ∧ Below w.heap.size w w' := by
  obtain ⟨F, h1, -⟩ := h.ex; exact h1.table hT

set_option maxHeartbeats 4000000 in
set_option maxRecDepth 100000 in
theorem La.status (h : La w0 w x d g B p k l) : Calls Tryz.prog 14 #[.pointer (some ⟨g, 0, none⟩)] w fun e w' => e = .returned (stv p) ∧ Below w.heap.size w w' := by
  have H := Lib.hid h
  clear h
  have K0 := Lib.hid (Blk.new w #[.bool false, .bool false, .bool false, .int .i64 0, .int .i64 0, .int .i64 0, .int .i64 0, .int .i64 0] 41)
  have H1 := Lib.hid (H.out.alloc (.cells #[.bool false, .bool false, .bool false, .int .i64 0, .int .i64 0, .int .i64 0, .int .i64 0, .int .i64 0] 41))
  have B1 := Lib.hid ((Below.refl w.heap.size w).alloc (Nat.le_refl _) (.cells #[.bool false, .bool false, .bool false, .int .i64 0, .int .i64 0, .int .i64 0, .int .i64 0, .int .i64 0] 41))
  obtain ⟨s, hs⟩ : ∃ s, w.heap.size = s := ⟨_, rfl⟩
  have HS := Lib.hid hs
  go_enter Tryz.func14, Tryz.ntmps14
  go_wp2_with fail
  rw [hs] at K0
  clear hs
  generalize (w.alloc (.cells #[.bool false, .bool false, .bool false, .int .i64 0, .int .i64 0, .int .i64 0, .int .i64 0, .int .i64 0] 41)) = w1 at *
  refine (clUp_c H1.out.cl rfl).mono ?_
  rintro e w' ⟨rfl, rfl⟩
  have c0 : w1.cell? ⟨g, 0, none⟩ = some (.pointer (some ⟨x, 0, none⟩)) := Blk.cell H1.out.cl rfl
  go_wp2_with fail
  refine H1.out.view.mono ?_
  rintro e w2 ⟨m, rfl, b2⟩
  have H2 := Lib.hid (H1.out.past b2)
  have K2 := Lib.hid (K0.out.past b2)
  have B2 := Lib.hid (B1.out.trans (b2.mono B1.out.size))
  clear b2 c0 K0 B1 H1
  go_wp2_with fail
  refine H2.out.good.mono ?_
  rintro e w3 ⟨rfl, b3⟩
  have H3 := Lib.hid (H2.out.past b3)
  have K3 := Lib.hid (K2.out.past b3)
  have B3 := Lib.hid (B2.out.trans (b3.mono B2.out.size))
  clear b3 K2 B2 H2
  go_wp2_with fail
  refine H3.out.log.mono ?_
  rintro e w4 ⟨A4, c4, rfl, b4⟩
  have H4 := Lib.hid (H3.out.past b4)
  have K4 := Lib.hid (K3.out.past b4)
  have B4 := Lib.hid (B3.out.trans (b4.mono B3.out.size))
  clear b4 K3 B3 H3
  go_wp2_with fail
  refine H4.out.commit.mono ?_
  rintro e w' ⟨rfl, rfl⟩
  go_wp2_with fail
  refine H4.out.told.mono ?_
  rintro e w5 ⟨A5, c5, rfl, -, b5⟩
  have H5 := Lib.hid (H4.out.past b5)
  have K5 := Lib.hid (K4.out.past b5)
  have B5 := Lib.hid (B4.out.trans (b5.mono B4.out.size))
  clear b5 K4 B4 H4
  go_wp2_with fail
  refine H5.out.waits.mono ?_
  rintro e w' ⟨rfl, rfl⟩
  have K6 := Lib.hid (Blk.row K5.out (sts' p).toArray)
  have B6 := Lib.hid (B5.out.trans ((grown_below (grown_row w5 s (sts' p).toArray) (by rw [← HS.out]; exact Nat.le_refl _) B5.out.size)))
  go_wp2_with ((with_reducible show wpList _ _ _ ((⟨none, Op.store 41 (.tmp 2) _, _, _, _, _⟩ : Oper) :: _) _ _); go_must (refine wpList_store_row rfl 41 (.tmp 2) (.tmp 35) rfl s _ rfl rfl _ _ K5.out (by kernel_rfl) (by rfl) (by kernel_rfl) ?_))
  refine bodyPost_ret (v := stv p) (results_cell_row rfl _ _ s _ _ _ _ rfl K6.out Tryz.underlying41 rfl (by kernel_rfl)) rfl ⟨rfl, B6.out⟩

namespace PNode
/-- What Get answers. -/
def getO (p : Np) (nm : ByteArray) : ByteArray × Int :=
  if inV p = true then (if gdO p = true then (match PTab.get (copT p.tab) nm with | some v => (v, 0) | none => (⟨#[]⟩, 8)) else (⟨#[]⟩, 7)) else (⟨#[]⟩, 6)
end PNode
set_option maxHeartbeats 4000000 in
set_option maxRecDepth 100000 in
theorem La.get (h : La w0 w x d g B p k l) (hT : p.T.length ≤ 900000) (nm : ByteArray) (hn : nm.size ≤ 1000) :
    Calls Tryz.prog 22 #[.pointer (some ⟨g, 0, none⟩), .string nm] w fun e w' => e = .returned (.tuple #[.string (getO p nm).1, .int .i64 (getO p nm).2]) ∧ Below w.heap.size w w' := by
  have H := Lib.hid h
  have c0 : w.cell? ⟨g, 0, none⟩ = some (.pointer (some ⟨x, 0, none⟩)) := Blk.cell h.cl rfl
  have HN := Lib.hid (show nm.size ≤ maxLen by unfold maxLen; omega)
  obtain ⟨r, hr⟩ : ∃ r, getO p nm = r := ⟨_, rfl⟩
  rw [hr]
  have HR := Lib.hid hr
  have HT := Lib.hid hT
  obtain ⟨i, hi⟩ : ∃ i, inV p = i := ⟨_, rfl⟩
  obtain ⟨gd, hg⟩ : ∃ gd, gdO p = gd := ⟨_, rfl⟩
  have HI := Lib.hid hi
  have HG := Lib.hid hg
  clear h hn hr hi hg hT
  go_enter Tryz.func22, Tryz.ntmps22
  go_wp2_with fail
  refine (clUp_c H.out.cl rfl).mono ?_
  rintro e w' ⟨rfl, rfl⟩
  go_wp2_with fail
  refine H.out.view.mono ?_
  rw [HI.out]
  rintro e w2 ⟨m, rfl, b2⟩
  have H2 := Lib.hid (H.out.past b2)
  have B2 := Lib.hid b2
  have c2 : w2.cell? ⟨g, 0, none⟩ = some (.pointer (some ⟨x, 0, none⟩)) := Blk.cell H2.out.cl rfl
  clear b2 c0 H
  cases i
  · have HR2 := Lib.hid (show r = (⟨#[]⟩, 6) by rw [← HR.out]; unfold getO; rw [HI.out]; rfl)
    go_wp2_with fail
    go_ret2
    rw [HR2.out]
    exact ⟨rfl, B2.out⟩
  · go_wp2_with fail
    refine H2.out.good.mono ?_
    rw [HG.out]
    rintro e w3 ⟨rfl, b3⟩
    have H3 := Lib.hid (H2.out.past b3)
    have B3 := Lib.hid (B2.out.trans (b3.mono B2.out.size))
    have c3 : w3.cell? ⟨g, 0, none⟩ = some (.pointer (some ⟨x, 0, none⟩)) := Blk.cell H3.out.cl rfl
    clear b3 c2 H2 B2
    cases gd
    · have HR2 := Lib.hid (show r = (⟨#[]⟩, 7) by rw [← HR.out]; unfold getO; rw [HI.out, HG.out]; rfl)
      go_wp2_with fail
      go_ret2
      rw [HR2.out]
      exact ⟨rfl, B3.out⟩
    · go_wp2_with fail
      refine (H3.out.table HT.out).mono ?_
      rintro e w4 ⟨g4, F4, c4, rfl, t4, b4⟩
      have T4 := Lib.hid t4
      have B4 := Lib.hid (B3.out.trans (b4.mono B3.out.size))
      clear t4 b4 c3 H3 B3
      go_wp2_with fail
      refine (tbGet_c w4 g4 F4 c4 _ T4.out nm HN.out).mono ?_
      cases hq : PTab.get (copT p.tab) nm with
      | none =>
        have HR2 := Lib.hid (show r = (⟨#[]⟩, 8) by rw [← HR.out]; unfold getO; rw [HI.out, HG.out, hq]; rfl)
        rintro e w5 ⟨rfl, b5⟩
        have B5 := Lib.hid (B4.out.trans (b5.mono B4.out.size))
        clear hq b5
        simp only [Option.getD_none, Option.isSome_none]
        go_wp2_with fail
        go_ret2
        rw [HR2.out]
        exact ⟨rfl, B5.out⟩
      | some v =>
        have HR2 := Lib.hid (show r = (v, 0) by rw [← HR.out]; unfold getO; rw [HI.out, HG.out, hq]; rfl)
        rintro e w5 ⟨rfl, b5⟩
        have B5 := Lib.hid (B4.out.trans (b5.mono B4.out.size))
        clear hq b5
        simp only [Option.getD_some, Option.isSome_some]
        go_wp2_with fail
        go_ret2
        rw [HR2.out]
        exact ⟨rfl, B5.out⟩
end

/-! Of none. -/
theorem clGet_nil (w : World) (nm : ByteArray) : Calls Tryz.prog 22 #[.pointer none, .string nm] w fun e w' => e = .returned (.tuple #[.string ⟨#[]⟩, .int .i64 5]) ∧ w = w' := by
  go_enter Tryz.func22, Tryz.ntmps22
  go_wp2_with fail
  refine (show Calls Tryz.prog 35 #[.pointer none] w fun e w' => e = .returned (.bool false) ∧ w = w' by
    go_enter Tryz.func35, Tryz.ntmps35
    go_wp2_with fail
    go_ret
    exact ⟨rfl, rfl⟩).mono ?_
  rintro e w' ⟨rfl, rfl⟩
  go_wp2_with fail
  go_ret2
  exact ⟨rfl, rfl⟩
theorem clGet_no {w : World} {g : Nat} {k l : Int} (h : Cl w g none k l) (nm : ByteArray) : Calls Tryz.prog 22 #[.pointer (some ⟨g, 0, none⟩), .string nm] w fun e w' => e = .returned (.tuple #[.string ⟨#[]⟩, .int .i64 5]) ∧ w = w' := by
  have H := Lib.hid h
  clear h
  go_enter Tryz.func22, Tryz.ntmps22
  go_wp2_with fail
  refine (clUp_no H.out rfl).mono ?_
  rintro e w' ⟨rfl, rfl⟩
  go_wp2_with fail
  go_ret2
  exact ⟨rfl, rfl⟩
set_option maxHeartbeats 2000000 in
theorem clStat_nil (w : World) : Calls Tryz.prog 14 #[.pointer none] w fun e w' => e = .returned stv0 ∧ Below w.heap.size w w' := by
  have K0 := Lib.hid (Blk.new w #[.bool false, .bool false, .bool false, .int .i64 0, .int .i64 0, .int .i64 0, .int .i64 0, .int .i64 0] 41)
  have B1 := Lib.hid ((Below.refl w.heap.size w).alloc (Nat.le_refl _) (.cells #[.bool false, .bool false, .bool false, .int .i64 0, .int .i64 0, .int .i64 0, .int .i64 0, .int .i64 0] 41))
  go_enter Tryz.func14, Tryz.ntmps14
  go_wp2_with fail
  refine (show Calls Tryz.prog 35 #[.pointer none] _ fun e w' => e = .returned (.bool false) ∧ w.alloc (.cells #[.bool false, .bool false, .bool false, .int .i64 0, .int .i64 0, .int .i64 0, .int .i64 0, .int .i64 0] 41) = w' by
    go_enter Tryz.func35, Tryz.ntmps35
    go_wp2_with fail
    go_ret
    exact ⟨rfl, rfl⟩).mono ?_
  rintro e w' ⟨rfl, rfl⟩
  have K2 := Lib.hid (Blk.row K0.out #[.bool false, .bool false, .bool false, .int .i64 0, .int .i64 0, .int .i64 0, .int .i64 0, .int .i64 0])
  go_wp2_with ((with_reducible show wpList _ _ _ ((⟨none, Op.store 41 (.tmp 2) _, _, _, _, _⟩ : Oper) :: _) _ _); go_must (refine wpList_store_row rfl 41 (.tmp 2) (.tmp 10) rfl w.heap.size _ rfl rfl _ _ K0.out (by kernel_rfl) (by rfl) (by kernel_rfl) ?_))
  refine bodyPost_ret (v := stv0) (results_cell_row rfl _ _ w.heap.size _ _ _ _ rfl K2.out Tryz.underlying41 rfl (by kernel_rfl)) rfl ⟨rfl, ?_⟩
  exact B1.out.trans (grown_below (grown_row _ w.heap.size _) (Nat.le_refl _) B1.out.size)
set_option maxHeartbeats 2000000 in
theorem clStat_no {w : World} {g : Nat} {k l : Int} (h : Cl w g none k l) : Calls Tryz.prog 14 #[.pointer (some ⟨g, 0, none⟩)] w fun e w' => e = .returned stv0 ∧ Below w.heap.size w w' := by
  have K0 := Lib.hid (Blk.new w #[.bool false, .bool false, .bool false, .int .i64 0, .int .i64 0, .int .i64 0, .int .i64 0, .int .i64 0] 41)
  have B1 := Lib.hid ((Below.refl w.heap.size w).alloc (Nat.le_refl _) (.cells #[.bool false, .bool false, .bool false, .int .i64 0, .int .i64 0, .int .i64 0, .int .i64 0, .int .i64 0] 41))
  have H := Lib.hid (Cl.past h ((Below.refl w.heap.size w).alloc (Nat.le_refl _) (.cells #[.bool false, .bool false, .bool false, .int .i64 0, .int .i64 0, .int .i64 0, .int .i64 0, .int .i64 0] 41)))
  clear h
  go_enter Tryz.func14, Tryz.ntmps14
  go_wp2_with fail
  refine (clUp_no H.out rfl).mono ?_
  rintro e w' ⟨rfl, rfl⟩
  have K2 := Lib.hid (Blk.row K0.out #[.bool false, .bool false, .bool false, .int .i64 0, .int .i64 0, .int .i64 0, .int .i64 0, .int .i64 0])
  go_wp2_with ((with_reducible show wpList _ _ _ ((⟨none, Op.store 41 (.tmp 2) _, _, _, _, _⟩ : Oper) :: _) _ _); go_must (refine wpList_store_row rfl 41 (.tmp 2) (.tmp 10) rfl w.heap.size _ rfl rfl _ _ K0.out (by kernel_rfl) (by rfl) (by kernel_rfl) ?_))
  refine bodyPost_ret (v := stv0) (results_cell_row rfl _ _ w.heap.size _ _ _ _ rfl K2.out Tryz.underlying41 rfl (by kernel_rfl)) rfl ⟨rfl, ?_⟩
  exact B1.out.trans (grown_below (grown_row _ w.heap.size _) (Nat.le_refl _) B1.out.size)
theorem clCast_nil (w : World) (o v : Int) (dt : ByteArray) : Calls Tryz.prog 12 #[.pointer none, .int .i64 o, .int .i64 v, .string dt] w fun e w' => e = .returned (.int .i64 5) ∧ w = w' := by
  go_enter Tryz.func12, Tryz.ntmps12
  go_wp2_with fail
  go_ret
  exact ⟨rfl, rfl⟩
theorem clCast_no {w : World} {g : Nat} {k l : Int} (h : Cl w g none k l) (h0 : 0 ≤ l) (h1 : l ≤ 1000000) : Calls Tryz.prog 12 #[.pointer (some ⟨g, 0, none⟩), .int .i64 0, .int .i64 0, .string ⟨#[]⟩] w fun e w' => e = .returned (.int .i64 5) ∧ Cl w' g none k (l + 1) ∧ Touch [g] w w' := by
  have H := Lib.hid h
  have c0 : w.cell? ⟨g, 0, none⟩ = some (.pointer none) := Blk.cell h rfl
  clear h
  go_enter Tryz.func12, Tryz.ntmps12
  go_wp2_with fail
  refine (ndCast_nil w).mono ?_
  rintro e w' ⟨rfl, rfl⟩
  clear c0
  go_wp2_with fail
  refine (clAddT H.out h0 h1).mono ?_
  rintro e w2 ⟨rfl, k3, t3⟩
  have K3 := Lib.hid k3
  have T3 := Lib.hid t3
  clear k3 t3
  go_wp2_with fail
  go_ret
  exact ⟨rfl, K3.out, T3.out⟩
theorem clPoll_nil (w : World) : Calls Tryz.prog 13 #[.pointer none] w fun e w' => e = .returned (.slice none 0 0) ∧ w = w' := by
  go_enter Tryz.func13, Tryz.ntmps13
  go_wp2_with fail
  go_ret
  exact ⟨rfl, rfl⟩
theorem clLost_nil (w : World) : Calls Tryz.prog 21 #[.pointer none] w fun e w' => e = .returned (.int .i64 0) ∧ w = w' := by
  go_enter Tryz.func21, Tryz.ntmps21
  go_wp2_with fail
  go_ret
  exact ⟨rfl, rfl⟩
set_option maxHeartbeats 2000000 in
theorem clPoll_no {w : World} {g : Nat} {l : Int} (h : Cl w g none 0 l) : Calls Tryz.prog 13 #[.pointer (some ⟨g, 0, none⟩)] w fun e w' => ∃ A c, e = .returned (.slice A 0 c) ∧ Cl w' g none 0 l ∧ Touch [g] w w' := by
  have H := Lib.hid h
  have c0 : w.cell? ⟨g, 0, none⟩ = some (.pointer none) := Blk.cell h rfl
  have c1 : w.cell? ⟨g, 1, none⟩ = some (.int .i64 0) := Blk.cell h rfl
  clear h
  go_enter Tryz.func13, Tryz.ntmps13
  go_wp2_with fail
  refine (ndTold_nil w).mono ?_
  rintro e w' ⟨rfl, rfl⟩
  go_wp2_with ((with_reducible show wpList _ _ _ ((⟨some 17, Op.slice _ _ _ _ _, _, _, _, _⟩ : Oper) :: _) _ _); go_must (refine wpList_cut rfl 28 (.tmp 12) (some (.tmp 16)) none rfl 95 _ 8 72 Tryz.underlying28 told_info w.heap.size none 0 0 [] rfl (Rd.nil _ _ _) 0 0 (.inr rfl) (.inl ⟨rfl, rfl⟩) (Nat.le_refl _) (Nat.le_refl _) ?_))
  intro A2 c2 r2
  have R2 := Lib.hid (show Rd w w.heap.size A2 c2 8 0 (tls []) from r2)
  clear r2 c0 c1
  go_wp2_with fail
  refine (cloneT_c w _ A2 c2 0 [] R2.out (by omega)).mono ?_
  rintro e w2 ⟨A3, c3, rfl, -, b3⟩
  have B3 := Lib.hid b3
  have H3 := Lib.hid (H.out.past b3)
  have f1 : w2.frozen? ⟨g, 1, none⟩ = false := Blk.free H3.out 1
  have c12 : w2.cell? ⟨g, 1, none⟩ = some (.int .i64 0) := Blk.cell H3.out rfl
  have K4 := Lib.hid (show Cl (w2.setCell ⟨g, 1, none⟩ (.int .i64 0)) g none 0 l from Blk.set H3.out 1 _)
  clear b3 R2
  go_wp2_with fail
  go_ret
  exact ⟨A3, c3, rfl, K4.out, (Touch.of_below B3.out).trans ((Touch.refl [g] w2).cell (g := g) (by simp) 1 _)⟩
end Go.Proofs.YtacipjdaiglnjaaGreatDoor

/- Rounds of a process that decides and is answered, reckoned. -/
namespace Go.Proofs.YtacipjdaiglnjaaGreatDoor
open Go.RowKit PNode

namespace PNode
/-- A tick, and its answer. -/
def rd (p : Np) : Np := match p.te with
  | some t => setP (ackF (setP (ledP (clkP p) t)) (ledT (clkP p) t) (akM (setP (ledP (clkP p) t)).L.length (ledM (clkP p) t 2).num))
  | none => p
def rdN (p : Np) : Nat → Np
  | 0 => p
  | n + 1 => rd (rdN p n)
def sil (p : Np) : Bool := match p.te with
  | some t => silent (clkP p) t
  | none => true
/-- Behind the first Cast of begun. -/
def bgE : Ent := ⟨1, 1, 1, 1, 1, 0, ⟨#[97, 61, 98]⟩⟩
def bgP : Np := cstP stI bgE
/-- Behind m Casts of ClientBusy. -/
def bsP : Nat → Np
  | 0 => stI
  | m + 1 => cstP (bsP m) ⟨1, 1, (m : Int) + 1, 1, 1, 0, ⟨#[120]⟩⟩
end PNode

theorem bgE_may : PEnt.may bgE = true := by decide +kernel
theorem bg_sil : (List.range 3).all (fun i => !sil (rdN bgP i)) = true := by decide +kernel
theorem bg_good : gdO (rdN bgP 3) = true := by decide +kernel
theorem bg_view3 : vwO (rdN bgP 3) = 1 := by decide +kernel
theorem bg_in3 : inV (rdN bgP 3) = true := by decide +kernel
theorem bg_com : (rdN bgP 3).com = 1 := by decide +kernel
theorem bg_T : (rdN bgP 3).T.length = 1 := by decide +kernel
theorem bg_tab : (rdN bgP 3).tab = [(⟨#[97]⟩, ⟨#[98]⟩)] := by rfl
theorem bg_cop : copT [(⟨#[97]⟩, ⟨#[98]⟩)] = [(⟨#[97]⟩, ⟨#[98]⟩)] := by rfl
theorem bg_get : PTab.get [(⟨#[97]⟩, ⟨#[98]⟩)] ⟨#[97]⟩ = some ⟨#[98]⟩ := by simp [PTab.get, PTab.eqb_self]
theorem bg_getO : getO (rdN bgP 3) ⟨#[97]⟩ = (⟨#[98]⟩, 0) := by
  unfold getO
  rw [bg_in3, bg_good, bg_tab, bg_cop, bg_get]; rfl
theorem bg_getO0 : getO bgP ⟨#[97]⟩ = (⟨#[]⟩, 7) := by
  unfold getO
  rw [show inV bgP = true by decide +kernel, show gdO bgP = false by decide +kernel]; rfl
theorem bs_sil : (List.range 5).all (fun m => (List.range 3).all fun i => !sil (rdN (bsP m) i)) = true := by decide +kernel
theorem bs_end : (List.range 5).all (fun m => decide ((rdN (bsP m) 3).pend.length = 0) && (decide ((rdN (bsP m) 3).T.length = m) && decide ((rdN (bsP m) 3).seq = m))) = true := by decide +kernel

section
variable {w0 w : World} {x d g j : Nat} {B : List Nat} {p : Np} {t : Te} {k l : Int}
theorem La.tickE (h : La w0 w x d g B p k l) (L : Ld j p t) (hs : silent (clkP p) t = false) (hj : j ≤ 1000) :
    Calls Tryz.prog 10 #[.pointer (some ⟨x, 0, none⟩)] w fun e w' => ∃ q A c, e = .returned (.slice A 1 c) ∧ Ow w' w.heap.size 31 13 A 1 c (mgs [q]) ∧ q.m = sends (clkP p) 2 (ledM (clkP p) t 2) ∧ La w0 w' x d g B (setP (ledP (clkP p) t)) k l ∧ Sty B w w' := by
  refine (h.post (fun F hF => hF.lead L hj)).mono ?_
  rintro e w' ⟨Q, p', A, c, ⟨q, hq, rfl⟩, rfl, q3, q4, q5⟩
  rcases hq with ⟨h1, -⟩ | ⟨-, hq, rfl⟩
  · rw [hs] at h1; cases h1
  · obtain ⟨m, rfl, hm⟩ := List.map_eq_singleton_iff.1 hq
    exact ⟨m, A, c, rfl, q3, hm, q4, q5⟩
/-- What a round leaves. -/
theorem Ld.rd (L : Ld j p t) (hj : j ≤ 1000) (hr : Nr (setP (ledP (clkP p) t))) : ∃ t', Ld (j + 2) (PNode.rd p) t' := by
  unfold PNode.rd
  rw [L.te]
  exact ((L.tick hj).ack hr (by have := okN_60 (L.tick hj).ok; omega)).1
theorem Ld.rd_eq (L : Ld j p t) {q : Mp} (hq : q.m = sends (clkP p) 2 (ledM (clkP p) t 2)) : setP (ackF (setP (ledP (clkP p) t)) (ledT (clkP p) t) (akM (setP (ledP (clkP p) t)).L.length q.m.num)) = PNode.rd p := by
  unfold PNode.rd
  rw [L.te, hq]; rfl
end
end Go.Proofs.YtacipjdaiglnjaaGreatDoor

/- Contract of begun (layer 26). -/
namespace Go.Proofs.YtacipjdaiglnjaaGreatDoor
open Go.RowKit PNode

theorem bgn_cast {er : Int} {p' : Np} (h : castC stI 1 1 ⟨#[97, 61, 98]⟩ er p') : er = 0 ∧ p' = bgP := by
  have hm : PEnt.may (PPend.nxt stI.id stI.boot stI.seq 1 1 ⟨#[97, 61, 98]⟩) = true := bgE_may
  rcases h with ⟨-, h, -⟩ | ⟨-, ⟨-, h, -⟩ | ⟨-, -, h, -⟩ | ⟨rfl, -, -, rfl⟩⟩
  · rw [bg_in] at h; cases h
  · rw [hm] at h; cases h
  · exact absurd h (by decide)
  · exact ⟨rfl, rfl⟩
theorem bg_silN {i : Nat} (h : i < 3) : sil (rdN bgP i) = false := by
  have := List.all_eq_true.1 bg_sil i (List.mem_range.2 h)
  simpa using this
theorem bg_stv : stv (rdN bgP 3) = .agg #[.bool true, .bool true, .bool true, .int .i64 1, .int .i64 1, .int .i64 1, .int .i64 1, .int .i64 0] := by
  have h1 : (rdN bgP 3).L.length = 1 := by decide +kernel
  have h2 : (rdN bgP 3).pend.length = 0 := by decide +kernel
  unfold stv
  rw [bg_in3, bg_good, bg_view3, bg_com, bg_T, h1, h2]; rfl

set_option maxHeartbeats 8000000 in
set_option maxRecDepth 100000 in
theorem bgn_c (w : World) (ht : Tab w) : Calls Tryz.prog 8 #[] w fun e w' => e = .returned (.bool true) ∧ Below w.heap.size w w' := by
  have HT := Lib.hid ht
  clear ht
  go_enter Tryz.func8, Tryz.ntmps8
  go_wp2_with fail
  refine (trio_c w HT.out).mono ?_
  rintro e w1 ⟨x, d, g, rfl, h1, hr⟩
  have H1 := Lib.hid h1
  have HR := Lib.hid hr
  clear h1 hr
  go_wp2_with fail
  refine (H1.out.cast 1 1 ⟨#[97, 61, 98]⟩ (Int.le_refl _) (by omega)).mono ?_
  rintro e w2 ⟨er, p', q2, rfl, h2, -⟩
  obtain ⟨rfl, rfl⟩ := bgn_cast q2
  have H2 := Lib.hid (show La w w2 x d g [] bgP 0 0 from h2)
  clear q2 h2 H1
  go_wp2_with fail
  refine (H2.out.get (by show (0 : Nat) ≤ _; omega) ⟨#[97]⟩ (by decide)).mono ?_
  rw [bg_getO0]
  rintro e w3 ⟨rfl, b3⟩
  have H3 := Lib.hid (H2.out.past b3)
  have HP := Lib.hid (show La w w3 x d g [] (rdN bgP 0) 0 0 ∧ ∃ t, Ld (1 + 2 * 0) (rdN bgP 0) t from ⟨H3.out, _, (ld0 HR.out).cast bgE⟩)
  clear b3 H2 H3 HR
  go_wp2_with fail
  go_loopw [6] (fun s wr => ∃ i : Nat, s = .int .i64 (i : Int) ∧ i ≤ 3 ∧ Hid (La w wr x d g [] (rdN bgP i) 0 0 ∧ ∃ t, Ld (1 + 2 * i) (rdN bgP i) t)) (fun s _ => (3 - intOf s).toNat)
  case atStart => exact ⟨0, rfl, by omega, HP⟩
  case round =>
    obtain ⟨i, rfl, hi, H4⟩ := hrel
    clear HP
    by_cases hlt : i < 3
    · obtain ⟨H4a, t, ht⟩ := H4.out
      have hs : silent (clkP (rdN bgP i)) t = false := by
        have := bg_silN hlt
        unfold sil at this
        rw [ht.te] at this
        exact this
      have L4 := Lib.hid ht
      have A4 := Lib.hid H4a
      have S4 := Lib.hid hs
      clear H4 H4a ht hs
      go_wp2_with fail
      refine (A4.out.tickE L4.out S4.out (by omega)).mono ?_
      rintro e w5 ⟨q, A, c, rfl, o5, hq, h5, -⟩
      have O5 := Lib.hid o5
      have A5 := Lib.hid h5
      have Q5 := Lib.hid hq
      clear o5 h5 hq A4
      go_wp2_with fail
      refine (A5.out.acks1 (L4.out.tick (by omega)) (by omega) HT.out O5.out (by rw [Q5.out]; exact led_kind _ _) (by rw [Q5.out]; exact led_num _ _ ⟨L4.out.lt.k.l0, L4.out.lt.ql⟩)).mono ?_
      rintro e w6 ⟨rfl, h6, -⟩
      have A6 := Lib.hid (show La w w6 x d g [] (rdN bgP (i + 1)) 0 0 ∧ ∃ t, Ld (1 + 2 * (i + 1)) (rdN bgP (i + 1)) t from ⟨by rw [L4.out.rd_eq Q5.out] at h6; exact h6, L4.out.rd (by omega) A5.out.r⟩)
      clear h6 A5 O5 L4 Q5
      go_wp2_with fail
      go_roundw
      case rel => exact ⟨i + 1, by go_num, by omega, A6⟩
      case measure => simp [intOf]; omega
    · obtain rfl : i = 3 := by omega
      have A4 := Lib.hid H4.out.1
      clear H4
      go_wp2_with fail
      refine (A4.out.get (by rw [bg_T]; omega) ⟨#[97]⟩ (by decide)).mono ?_
      rw [bg_getO]
      rintro e w5 ⟨rfl, b5⟩
      have A5 := Lib.hid (A4.out.past b5)
      clear b5 A4
      go_wp2_with fail
      refine A5.out.status.mono ?_
      rw [bg_stv]
      rintro e w6 ⟨rfl, b6⟩
      have A6 := Lib.hid (A5.out.past b6)
      clear b6 A5
      have A7 := Lib.hid (A6.out.alloc (.cells #[.bool true, .bool true, .bool true, .int .i64 1, .int .i64 1, .int .i64 1, .int .i64 1, .int .i64 0] 41))
      have K7 := Lib.hid (Blk.new w6 #[.bool true, .bool true, .bool true, .int .i64 1, .int .i64 1, .int .i64 1, .int .i64 1, .int .i64 0] 41)
      clear A6
      go_wp2_with fail
      generalize (w6.alloc (.cells #[.bool true, .bool true, .bool true, .int .i64 1, .int .i64 1, .int .i64 1, .int .i64 1, .int .i64 0] 41)) = w7 at *
      generalize w6.heap.size = st at *
      refine (A7.out.poll ⟨Int.le_refl _, by omega⟩ (by rw [bg_T]; omega)).mono ?_
      rw [show ((rdN bgP 3).T.drop (0 : Int).toNat).length = 1 from bg_T, bg_T]
      rintro e w8 ⟨A8, c8, rfl, -, h8, -, t8⟩
      have A8' := Lib.hid h8
      have K8 := K7.out.touch t8 (fun hm => K7.out.ne A7.out.cl (by decide) (List.mem_singleton.1 hm))
      have c0 := K8.cell (i := 0) rfl
      have c1 := K8.cell (i := 1) rfl
      have c2 := K8.cell (i := 2) rfl
      have c3 := K8.cell (i := 3) rfl
      have c5 := K8.cell (i := 5) rfl
      have c6 := K8.cell (i := 6) rfl
      clear h8 t8 K8 K7 A7
      go_wp2_with fail
      refine (A8'.out.poll ⟨by omega, by rw [bg_T]; omega⟩ (by rw [bg_T]; omega)).mono ?_
      rw [show ((rdN bgP 3).T.drop ((1 : Nat) : Int).toNat).length = 0 by rw [List.length_drop, bg_T]; rfl]
      rintro e w9 ⟨A9, c9, rfl, -, h9, -, -⟩
      have A9' := Lib.hid h9
      clear h9 A8' c0 c1 c2 c3 c5 c6
      go_wp2_with fail
      refine (clLost_c A9'.out.cl).mono ?_
      rintro e w10 ⟨rfl, rfl⟩
      have B9 := Lib.hid A9'.out.bel
      clear A9'
      go_wp2_with fail
      go_ret
      exact ⟨rfl, B9.out⟩
end Go.Proofs.YtacipjdaiglnjaaGreatDoor

/- What the rows' condition on the listed variables gives: the table of crc lies as it is declared. -/
namespace Go.Proofs.YtacipjdaiglnjaaGreatDoor
open Go.RowKit

end Go.Proofs.YtacipjdaiglnjaaGreatDoor

/- A Cast leaves either state. -/
namespace Go.Proofs.YtacipjdaiglnjaaGreatDoor
open Go.RowKit PNode

theorem Sw.cast {j : Nat} {p p' : Np} {o v er : Int} {dt : ByteArray} (s : Sw j p) (h : castC p o v dt er p') : Sw (j + 1) p' ∧ p'.T = p.T := by
  rcases h with ⟨-, -, rfl⟩ | ⟨hi, ⟨-, -, rfl⟩ | ⟨-, -, -, rfl⟩ | ⟨-, -, -, rfl⟩⟩
  · exact ⟨s.more, rfl⟩
  · exact ⟨s.more, rfl⟩
  · exact ⟨s.more, rfl⟩
  · rcases s with ⟨t, L⟩ | L
    · exact ⟨.inl ⟨t, L.cast _⟩, rfl⟩
    · rw [L.inV] at hi; cases hi
theorem Sw.len {j : Nat} {p : Np} (s : Sw j p) : p.T.length ≤ 60 * j := by
  rcases s with ⟨t, L⟩ | L
  · exact L.T
  · exact L.T
end Go.Proofs.YtacipjdaiglnjaaGreatDoor

/- A slice that came in, whose elements have m cells each. No program is named here. -/
namespace Go.Proofs.YtacipjdaiglnjaaGreatDoor
open Go.RowKit Go.ChangeShapes Go.WideShapes Go.Deep

section
variable {H : Type} {enc : TypeId × Value → H} {P : Program} {w : World} {base : Nat} {spare : Nat → Bool} {held : Bool}
/-- A slice whose elements have m cells; F j u: what is known of an element's cell j. -/
theorem open_any {t e : TypeId} {m : Nat} {fuel : Nat} {cs : List Value} {x : DataW H × List MemPlace} (F : Nat → Value → Prop)
    (ht : P.underlying t = some (.slice e)) (hC : P.cellsOf e = m) (hm0 : 0 < m)
    (hE : ∀ (fuel : Nat) (cs : List Value) (x : DataW H × List MemPlace), DataW.trod enc P w base spare held fuel e cs = some x → ∀ (j : Nat) (u : Value), cs[j]? = some u → F j u)
    (h : DataW.trod enc P w base spare held fuel t cs = some x) :
    ∃ (A : Option Addr) (n c : Nat) (xs : List Value), cs = [.slice A n c] ∧ Rd w w.heap.size A c m n xs ∧ ∀ (i j : Nat) (u : Value), j < m → xs[i * m + j]? = some u → F j u := by
  rcases open_slice ht h with ⟨rfl, _⟩ | ⟨a, len, cap, k, q, D, Pl, hcs, hb, hl, hc, hk, hx, hi⟩
  · exact ⟨none, 0, 0, [], rfl, Rd.nil _ _ _, fun i j u _ hu => by simp at hu⟩
  · have hle : len ≤ k := by rw [hk]; split <;> omega
    have each : ∀ i j, i < len → j < m → ∃ u, w.cell? ((a.add (i * m)).add j) = some u ∧ F j u := by
      intro i j hil hj
      obtain ⟨cs', hc', ht'⟩ := hi i (by omega)
      rw [hC] at hc'
      obtain ⟨_, hcl, hat⟩ := World.cells?_some hc'
      have hj' : j < cs'.length := by omega
      refine ⟨cs'[j], (hat j hj).trans ?_, hE _ _ _ ht' j _ (List.getElem?_eq_getElem hj')⟩
      exact List.getElem?_eq_getElem hj'
    by_cases hp : 0 < len
    · obtain ⟨u0, e0, _⟩ := each 0 0 hp hm0
      obtain ⟨b, o, spot⟩ := a
      have hs : spot = none := by simpa [Addr.add] using World.cell?_spot e0
      subst hs
      have cel : ∀ i j, i < len → j < m → ∃ u, w.cell? ⟨b, o + (i * m + j), none⟩ = some u ∧ F j u := by
        intro i j hil hj
        obtain ⟨u, hu, hFu⟩ := each i j hil hj
        rw [add_zero_spot, add_zero_spot, Nat.add_assoc] at hu
        exact ⟨u, hu, hFu⟩
      refine ⟨some ⟨b, o, none⟩, len, cap, (List.range (len * m)).map (fun q => (w.cell? ⟨b, o + q, none⟩).getD undef), hcs, ⟨by simp, hl, hc, (fun hh => by cases hh), fun _ => ⟨b, o, rfl, ?_, fun j u hu => ?_⟩⟩, fun i j u hj hu => ?_⟩
      · rw [add_zero_spot, add_zero_spot] at e0
        exact World.block_lt_of_cell? w _ e0
      · rw [List.getElem?_map] at hu
        by_cases hj : j < len * m
        · rw [List.getElem?_range hj] at hu
          have d1 : j / m < len := Nat.div_lt_of_lt_mul (by rw [Nat.mul_comm]; exact hj)
          have d2 : j % m < m := Nat.mod_lt _ hm0
          obtain ⟨v, hv, _⟩ := cel (j / m) (j % m) d1 d2
          rw [show j / m * m + j % m = j by rw [Nat.mul_comm]; exact Nat.div_add_mod j m] at hv
          simp [hv] at hu
          rw [hv, hu]
        · rw [List.getElem?_eq_none (by simpa using hj)] at hu
          cases hu
      · rw [List.getElem?_map] at hu
        by_cases hq : i * m + j < len * m
        · rw [List.getElem?_range hq] at hu
          have d1 : i < len := by
            rcases Nat.lt_or_ge i len with h | h
            · exact h
            · have := Nat.mul_le_mul_right m h; omega
          obtain ⟨v, hv, hFv⟩ := cel i j d1 hj
          simp [hv] at hu
          rw [← hu]; exact hFv
        · rw [List.getElem?_eq_none (by simpa using hq)] at hu
          cases hu
    · have : len = 0 := by omega
      subst this
      exact ⟨some a, 0, cap, [], hcs, ⟨by simp, hl, hc, (fun hh => by cases hh), fun h => by omega⟩, fun i j u _ hu => by simp at hu⟩

end
end Go.Proofs.YtacipjdaiglnjaaGreatDoor

/- Two slices of what was told that read alike (the document's EqTold). -/
namespace Go.Proofs.YtacipjdaiglnjaaGreatDoor
open Go.RowKit PReady

set_option maxHeartbeats 4000000 in
set_option maxRecDepth 100000 in
/-- Two slices that read alike. -/
theorem EqTold_c (w : World) (B1 B2 : Nat) (A A2 : Option Addr) (c c2 n : Nat) (X : List PReady.Tl) (h : Rd w B1 A c 8 n (tls X)) (h2 : Rd w B2 A2 c2 8 n (tls X)) :
    Calls Tryz.prog 25 #[.slice A n c, .slice A2 n c2] w fun x w' => x = .returned (.bool true) ∧ Below w.heap.size w w' := by
  have hcap := h.cap
  have hle := h.le
  have hn : n ≤ 9223372036854775807 := by unfold maxLen at hcap; omega
  have hle2 := h2.le
  have R1 := Lib.hid h.tight
  have R2 := Lib.hid h2.tight
  have jn : ((n : Int) != (n : Int)) = false := by simp
  clear h h2 hcap
  go_enter Tryz.func25, Tryz.ntmps25
  go_wp2_with fail
  go_loopw [5] (fun s5 wr => ∃ i : Nat, i ≤ n ∧ s5 = .int .i64 i ∧ Hid (Below w.heap.size w wr)) (fun s5 _ => n - (intOf s5).toNat)
  case atStart => exact ⟨0, by omega, rfl, Lib.hid (Below.refl _ _)⟩
  case round =>
    obtain ⟨i, hi, rfl, BL⟩ := hrel
    by_cases hlt : i < n
    · obtain ⟨b, o, y, rfl, hb, hy, -, hr⟩ := (R1.out.below BL.out).told hlt
      obtain ⟨b', o', y', rfl, hb', hy', -, hr'⟩ := (R2.out.below BL.out).told hlt
      obtain rfl : y = y' := by have := hy.symm.trans hy'; exact Option.some.inj this
      have HB := Lib.hid (show b < wr.heap.size from Nat.lt_of_lt_of_le hb BL.out.size)
      have HB' := Lib.hid (show b' < wr.heap.size from Nat.lt_of_lt_of_le hb' BL.out.size)
      have HR := Lib.hid (show wr.drew.rangeAt b (o + i * 8) (tcs y) from hr)
      have HR' := Lib.hid (show wr.drew.rangeAt b' (o' + i * 8) (tcs y) from hr')
      have HE := Lib.hid (show PEnt.eqE y.2 y.2 = true from (PEnt.eqE_iff _ _).2 rfl)
      have jp : (y.1 != y.1) = false := by simp
      clear hb hb' hy hy' hr hr'
      go_wp2_with fail
      refine Hb.begin ?_
      refine Hb.take (v := .slice (some ⟨b, o, none⟩) n c) 0 17 rfl ?_ (fun _ _ => rfl)
      refine Hb.take (v := .int .i64 (i : Int)) 1 18 rfl ?_ (fun _ _ => rfl)
      refine Hb.take (v := .pointer (some ⟨b, o + i * 8, none⟩)) 2 19 rfl ?_ (fun w' hw' => by go_simp; first | done | rfl | omega | (simp; omega))
      refine Hb.take (v := .pointer (some ⟨b, o + i * 8, none⟩)) 3 20 rfl ?_ (fun w' hw' => by go_simp; first | done | rfl | omega)
      refine Hb.take (v := .int .i64 y.1) 4 21 rfl ?_ (fun w' hw' => run_loadInt (range_at (rangeAt_below HR.out hw' HB.out)) rfl)
      refine Hb.take (v := .slice (some ⟨b', o', none⟩) n c2) 5 22 rfl ?_ (fun _ _ => rfl)
      refine Hb.take (v := .int .i64 (i : Int)) 6 23 rfl ?_ (fun _ _ => rfl)
      refine Hb.take (v := .pointer (some ⟨b', o' + i * 8, none⟩)) 7 24 rfl ?_ (fun w' hw' => by go_simp; first | done | rfl | omega | (simp; omega))
      refine Hb.take (v := .pointer (some ⟨b', o' + i * 8, none⟩)) 8 25 rfl ?_ (fun w' hw' => by go_simp; first | done | rfl | omega)
      refine Hb.take (v := .int .i64 y.1) 9 26 rfl ?_ (fun w' hw' => run_loadInt (range_at (rangeAt_below HR'.out hw' HB'.out)) rfl)
      refine Hb.take (v := .bool false) 10 27 rfl ?_ (fun w' hw' => by go_simp)
      refine Hb.take (v := .bool false) 11 28 rfl ?_ (fun _ _ => rfl)
      refine Hb.take (v := .slice (some ⟨b, o, none⟩) n c) 12 29 rfl ?_ (fun _ _ => rfl)
      refine Hb.take (v := .int .i64 (i : Int)) 13 30 rfl ?_ (fun _ _ => rfl)
      refine Hb.take (v := .pointer (some ⟨b, o + i * 8, none⟩)) 14 31 rfl ?_ (fun w' hw' => by go_simp; first | done | rfl | omega | (simp; omega))
      refine Hb.take (v := .pointer (some ⟨b, o + i * 8 + 1, none⟩)) 15 32 rfl ?_ (fun w' hw' => by go_simp; first | done | rfl | omega)
      refine Hb.take (v := ev y.2) 16 33 rfl ?_ (fun w' hw' => run_loadE (range_ent (rangeAt_below HR.out hw' HB.out)) rfl)
      refine Hb.take (v := .slice (some ⟨b', o', none⟩) n c2) 17 34 rfl ?_ (fun _ _ => rfl)
      refine Hb.take (v := .int .i64 (i : Int)) 18 35 rfl ?_ (fun _ _ => rfl)
      refine Hb.take (v := .pointer (some ⟨b', o' + i * 8, none⟩)) 19 36 rfl ?_ (fun w' hw' => by go_simp; first | done | rfl | omega | (simp; omega))
      refine Hb.take (v := .pointer (some ⟨b', o' + i * 8 + 1, none⟩)) 20 37 rfl ?_ (fun w' hw' => by go_simp; first | done | rfl | omega)
      refine Hb.take (v := ev y.2) 21 38 rfl ?_ (fun w' hw' => run_loadE (range_ent (rangeAt_below HR'.out hw' HB'.out)) rfl)
      refine Hb.call (f := 43) (args := #[ev y.2, ev y.2]) 22 39 rfl ?_ (run_callf Tryz.func43 (by kernel_rfl) (by kernel_rfl) (by simp only [List.map_toArray, List.map_cons, List.map_nil]; rfl))
      refine (rEq_c wr.drew y.2 y.2).mono ?_
      rw [HE.out]
      rintro x w3 ⟨rfl, b3⟩
      refine Hb.back b3 (Nat.le_refl _) ?_
      refine Hb.take (v := .bool false) 23 40 rfl ?_ (fun w' hw' => by go_simp)
      refine Hb.take (v := .bool false) 24 41 rfl ?_ (fun _ _ => rfl)
      refine Hb.done ?_
      go_wp2_with fail
      go_roundw
      case rel => exact ⟨i + 1, by omega, by go_num, Lib.hid (BL.out.drew.trans (b3.mono BL.out.size))⟩
      case measure => simp [intOf]; omega
    · obtain rfl : i = n := by omega
      go_wp2_with fail
      go_ret
      exact ⟨rfl, BL.out⟩
end Go.Proofs.YtacipjdaiglnjaaGreatDoor

