/- Hear in two ways: the message, or an error; a law's gram. -/
import Derived.Test.YtacipjdaiglnjaaGreatDoorSeg16
import Derived.Test.YtacipjdaiglnjaaGreatDoorSeg13
import Derived.Test.YtacipjdaiglnjaaGreatDoorSeg3
import Derived.Deep.RegionWith
import Derived.Lib.MinMax
import Derived.Test.YtacipjdaiglnjaaGreatDoorSeg4
import Derived.Test.YtacipjdaiglnjaaGreatDoorSeg12
import Derived.Shelf.SlGeneric
import Derived.Ground.SlgmProg
import Derived.Shelf.SlLaysM
import Derived.Test.YtacipjdaiglnjaaGreatDoorProg
import Derived.Test.YtacipjdaiglnjaaGreatDoorSeg7
import Derived.Shelf.SortM.Plain
import Derived.Sort.OwnSortedInts
import Derived.BigRegion
import Derived.Tactics2
import Derived.Test.YtacipjdaiglnjaaGreatDoorSeg1
namespace Go.Proofs.YtacipjdaiglnjaaGreatDoor
open Go.RowKit

theorem herr_zero {me : Int} {L : List Oth} {r : Option Msg} (h : PGram.herr me L r = 0) : ∃ m, r = some m ∧ PGram.hmsg me L r = m := by
  unfold PGram.herr at h
  unfold PGram.hmsg
  cases r with
  | none => cases h
  | some m =>
    refine ⟨m, rfl, ?_⟩
    simp only at h ⊢
    split at h
    · cases h
    · rename_i h1
      split at h
      · cases h
      · rename_i h2
        rw [if_neg h1, if_neg h2]
theorem hear_ok {w : World} {g : Nat} {me : Int} {L : List Oth} {A : Option Addr} {c n : Nat} {l : List Int} {r : Option Msg} {m : Msg} (hg : Gm w g me L) (h : Rd w w.heap.size A c 1 n (bs l)) (hb : isB l) (ht : Tab w) (hn : n ≤ 1000000) (hd : PMsg.dec l = r) (hr : r = some m) (he : PGram.herr me L r = 0) :
    Calls Tryz.prog 55 #[.pointer (some ⟨g, 0, none⟩), .slice A n c] w fun x w' => ∃ (A' : Option Addr) (c' : Nat), x = .returned (.tuple #[.agg #[.int .i64 m.kind, .int .i64 m.fr, .int .i64 m.dst, .int .i64 m.boot, .int .i64 m.view, .int .i64 m.last, .int .i64 m.mem, .int .i64 m.pos, .slice A' m.es.length c', .int .i64 m.com, .int .i64 m.num, .int .i64 m.clk, .bool m.yes], .int .i64 0]) ∧
      w'.ownsRow w.heap.size 93 7 (.slice A' m.es.length c') m.es.length (els m.es) ∧ Gm w' g me (PGram.hleft me L r) ∧ Touch [g] w w' := by
  have e1 := hear_c w g me L A c n l hg h hb ht hn
  rw [hd] at e1
  obtain ⟨m', h1, h2⟩ := herr_zero he
  obtain rfl : m = m' := by rw [hr] at h1; exact Option.some.inj h1
  unfold HearPost at e1
  rw [he, h2] at e1
  exact e1
/-- What is told of a message's bytes. -/
def said (m : Msg) : Option Msg := if PMsg.may m = true then some m else none
/-- A law's gram: what the law made, at block g. -/
structure Gs (w0 w : World) (g : Nat) (me : Int) (L : List Oth) : Prop where
  bel : Below w0.heap.size w0 w
  own : w0.heap.size ≤ g
  gm : Gm w g me L
section
variable {w0 w w' : World} {g : Nat} {me : Int} {L L' : List Oth}
theorem Gs.past (h : Gs w0 w g me L) (b : Below w.heap.size w w') : Gs w0 w' g me L := ⟨h.bel.trans (b.mono h.bel.size), h.own, h.gm.past b⟩
theorem Gs.go (h : Gs w0 w g me L) (k : Gm w' g me L') (t : Touch [g] w w') : Gs w0 w' g me L' := ⟨h.bel.trans (t.below (by simpa using h.own) h.bel.size), h.own, k⟩
theorem Gs.tab (h : Gs w0 w g me L) (t : Tab w0) : Tab w := t.past h.bel
/-- Another block of the law's, behind a call that wrote the gram. -/
theorem Gs.blk (h : Gs w0 w g me L) {x : Nat} {t : TypeId} {xs : List Value} (k : Blk w x t xs) (hne : t ≠ 150) (ht : Touch [g] w w') : Blk w' x t xs := k.touch ht (by simpa using k.ne h.gm.1 hne)
theorem Gs.row (h : Gs w0 w g me L) {base k n : Nat} {t : TypeId} {v : Value} {xs : List Value} (o : w.ownsRow base t k v n xs) (hne : 150 ≠ t) (ht : Touch [g] w w') : w'.ownsRow base t k v n xs := own_touch o ht (fun s hs zs hz => by
  obtain rfl := List.mem_singleton.1 hs
  exact Blk.ne h.gm.1 hz hne rfl)
end
end Go.Proofs.YtacipjdaiglnjaaGreatDoor

/- A process hears (Hear): what gram hears it heeds or not, does what is said of it, and tells what may be told; its log is empty. -/
namespace Go.Proofs.YtacipjdaiglnjaaGreatDoor
open Go.RowKit PNode

/-- Behind what gram heard. -/
def gotP (p : Np) (m : Msg) : Np := { p with G := PGram.hleft p.id p.G (some m) }
theorem Nr.got {p : Np} (h : Nr p) (m : Msg) : Nr (gotP p m) := ⟨h.n, h.id, h.boot, h.pro, h.clock, h.heard, h.last, h.mem, h.com, h.vo, h.den, h.pf, h.seq⟩

set_option maxHeartbeats 8000000 in
set_option maxRecDepth 100000 in
theorem hear_of {w : World} {x d : Nat} {F : List Nat} {p : Np} (h : Nd w x d F p) {Ab : Option Addr} {cb nb : Nat} {l : List Int} (R : Rd w w.heap.size Ab cb 1 nb (bs l)) (hb : isB l) (ht : Tab w) (hn : nb ≤ 1000000) {m : Msg} (hd : PMsg.dec l = some m) (he : PGram.herr p.id p.G (some m) = 0)
    (C : List Mp → Np → Prop) (hC : ∀ Q p', C Q p' → p'.L = [] ∧ p'.com = 0)
    (hheeds : ∀ w1 F1 A c, Nd w1 x d F1 (gotP p m) → Calls Tryz.prog 56 #[.pointer (some ⟨x, 0, none⟩), mv m A c] w1 fun e w' => e = .returned (.bool true) ∧ Below w1.heap.size w1 w')
    (hheed : ∀ w1 F1 A c, Nd w1 x d F1 (gotP p m) → Rd w1 w1.heap.size A c 7 m.es.length (els m.es) → Calls Tryz.prog 57 #[.pointer (some ⟨x, 0, none⟩), mv m A c] w1 (TickPost w1 x d F1 C)) :
    Calls Tryz.prog 28 #[.pointer (some ⟨x, 0, none⟩), .slice Ab nb cb] w (TickPost w x d F C) := by
  obtain ⟨a, s0, hr⟩ := h.open
  have HR := Lib.hid (hr.got m)
  have S0 := Lib.hid s0
  have B0 : Blk w x 79 (ncs d p a) := s0.sep.get (i := 0) rfl
  have G0 : Gm w a.gg p.id p.G := s0.sep.get (i := 6) rfl
  have c15 : w.cell? ⟨x, 15, none⟩ = some (.pointer (some ⟨a.gg, 0, none⟩)) := B0.cell rfl
  have HRd := Lib.hid R
  have HB := Lib.hid hb
  have HT := Lib.hid ht
  have HN := Lib.hid hn
  have HD := Lib.hid hd
  have HE := Lib.hid he
  have HG := Lib.hid G0
  have HH1 := Lib.hid hheeds
  have HH2 := Lib.hid hheed
  have HC1 := Lib.hid hC
  clear hheeds hheed hC
  clear h hr s0 B0 G0 R hb ht hn hd he
  go_enter Tryz.func28, Tryz.ntmps28
  go_wp2_with fail
  refine (hear_ok HG.out HRd.out HB.out HT.out HN.out HD.out rfl HE.out).mono ?_
  rintro e w1 ⟨A, c, rfl, o1, G1, T1⟩
  have S1 := Lib.hid (show St okN w w1 F (parts x d (gotP p m) a) from S0.out.set 6 rfl (pG_ok (gotP p m) a) T1 G1 (fun k hk => .inl hk))
  have W1 := Lib.hid (S1.out.shut HR.out)
  obtain ⟨⟨F1, n1, hF1⟩, t1⟩ := W1.out
  have N1 := Lib.hid n1
  have D1 := Lib.hid hF1
  have TT1 := Lib.hid t1
  have O1 := Lib.hid (Rd.of_own o1)
  have KZ := Lib.hid (Blk.new w1 #[.int .i64 0, .int .i64 0, .int .i64 0, .int .i64 0, .int .i64 0, .int .i64 0, .int .i64 0, .int .i64 0, .slice none 0 0, .int .i64 0, .int .i64 0, .int .i64 0, .bool false] 31)
  have K2 := Lib.hid (Blk.row KZ.out #[.int .i64 m.kind, .int .i64 m.fr, .int .i64 m.dst, .int .i64 m.boot, .int .i64 m.view, .int .i64 m.last, .int .i64 m.mem, .int .i64 m.pos, .slice A m.es.length c, .int .i64 m.com, .int .i64 m.num, .int .i64 m.clk, .bool m.yes])
  have b2 := Lib.hid (((Below.refl w1.heap.size w1).alloc (Nat.le_refl _) (.cells #[.int .i64 0, .int .i64 0, .int .i64 0, .int .i64 0, .int .i64 0, .int .i64 0, .int .i64 0, .int .i64 0, .slice none 0 0, .int .i64 0, .int .i64 0, .int .i64 0, .bool false] 31)).trans (grown_below (grown_row (w1.alloc (.cells #[.int .i64 0, .int .i64 0, .int .i64 0, .int .i64 0, .int .i64 0, .int .i64 0, .int .i64 0, .int .i64 0, .slice none 0 0, .int .i64 0, .int .i64 0, .int .i64 0, .bool false] 31)) w1.heap.size #[.int .i64 m.kind, .int .i64 m.fr, .int .i64 m.dst, .int .i64 m.boot, .int .i64 m.view, .int .i64 m.last, .int .i64 m.mem, .int .i64 m.pos, .slice A m.es.length c, .int .i64 m.com, .int .i64 m.num, .int .i64 m.clk, .bool m.yes]) (Nat.le_refl _) (by simp)))
  clear o1 G1 T1 n1 hF1 t1 W1 c15 S1 S0 HG
  go_wp2_with (first | ((with_reducible show wpList _ _ _ ((⟨none, Op.store 31 (.tmp 5) _, _, _, _, _⟩ : Oper) :: _) _ _); go_must (refine wpList_store_row rfl 31 (.tmp 5) (.tmp 17) rfl w1.heap.size _ rfl rfl _ _ KZ.out (by kernel_rfl) (by rfl) (by kernel_rfl) ?_)) | ((with_reducible show wpList _ _ _ ((⟨some 23, Op.load _ _, _, _, _, _⟩ : Oper) :: _) _ _); go_must (refine wpList_unguard rfl ?_; refine wpList_load_row rfl 31 (.tmp 5) rfl w1.heap.size rfl 31 #[.int .i64 m.kind, .int .i64 m.fr, .int .i64 m.dst, .int .i64 m.boot, .int .i64 m.view, .int .i64 m.last, .int .i64 m.mem, .int .i64 m.pos, .slice A m.es.length c, .int .i64 m.com, .int .i64 m.num, .int .i64 m.clk, .bool m.yes] (0, 0) _ K2.out Tryz.underlying31 rfl (by kernel_rfl) ?_)))
  generalize (w1.alloc (.cells #[.int .i64 0, .int .i64 0, .int .i64 0, .int .i64 0, .int .i64 0, .int .i64 0, .int .i64 0, .int .i64 0, .slice none 0 0, .int .i64 0, .int .i64 0, .int .i64 0, .bool false] 31)).setRow w1.heap.size #[.int .i64 m.kind, .int .i64 m.fr, .int .i64 m.dst, .int .i64 m.boot, .int .i64 m.view, .int .i64 m.last, .int .i64 m.mem, .int .i64 m.pos, .slice A m.es.length c, .int .i64 m.com, .int .i64 m.num, .int .i64 m.clk, .bool m.yes] = w2 at *
  have N2 := Lib.hid (N1.out.past b2.out)
  refine (HH1.out w2 F1 A c N2.out).mono ?_
  rintro e w3 ⟨rfl, b3⟩
  have N3 := Lib.hid (N2.out.past b3)
  have K3 := Lib.hid (K2.out.past b3)
  have O3 := Lib.hid (((O1.out.past b2.out).tight.past b3).tight)
  have b3' := Lib.hid (b2.out.trans (b3.mono b2.out.size))
  clear b3 K2 N2 N1 O1
  go_wp2_with ((with_reducible show wpList _ _ _ ((⟨some 28, Op.load _ _, _, _, _, _⟩ : Oper) :: _) _ _); go_must (refine wpList_load_row rfl 31 (.tmp 5) rfl w1.heap.size rfl 31 #[.int .i64 m.kind, .int .i64 m.fr, .int .i64 m.dst, .int .i64 m.boot, .int .i64 m.view, .int .i64 m.last, .int .i64 m.mem, .int .i64 m.pos, .slice A m.es.length c, .int .i64 m.com, .int .i64 m.num, .int .i64 m.clk, .bool m.yes] (0, 0) _ K3.out Tryz.underlying31 rfl (by kernel_rfl) ?_))
  refine (HH2.out w3 F1 A c N3.out O3.out).mono ?_
  rintro e w4 ⟨Q, p', A4, c4, hq, rfl, o4, ⟨⟨F4, n4, hF4⟩, t4⟩⟩
  have HQ := Lib.hid hq
  have O4 := Lib.hid o4
  have N4 := Lib.hid n4
  have D4 := Lib.hid hF4
  have TT4 := Lib.hid t4
  clear hq o4 n4 hF4 t4 K3 O3
  go_wp2_with fail
  refine (settle0_c N4.out (HC1.out Q p' HQ.out).1 (HC1.out Q p' HQ.out).2).mono ?_
  rintro e w5 ⟨rfl, W5⟩
  have W5' := Lib.hid W5
  clear W5
  go_wp2_with fail
  go_ret
  refine ⟨Q, p', A4, c4, HQ.out, rfl, (N4.out.ow O4.out W5'.out.touch).down (Nat.le_trans TT1.out.size b3'.out.size), NdW.then D1.out TT1.out ((NdW.then D4.out TT4.out W5'.out).behind b3'.out)⟩
end Go.Proofs.YtacipjdaiglnjaaGreatDoor

/- A process takes an empty log (take). -/
namespace Go.Proofs.YtacipjdaiglnjaaGreatDoor
open Go.RowKit PNode

theorem Nr.take {p : Np} (h : Nr p) : Nr { p with L := [], com := 0 } := ⟨h.n, h.id, h.boot, h.pro, h.clock, h.heard, h.last, h.mem, ⟨Int.le_refl _, Int.le_refl _⟩, h.vo, h.den, h.pf, h.seq⟩

set_option maxHeartbeats 4000000 in
set_option maxRecDepth 100000 in
theorem take0_c {w : World} {x d : Nat} {F : List Nat} {p : Np} (h : Nd w x d F p) {B : Nat} {A : Option Addr} {c : Nat} (R : Rd w B A c 7 0 (els [])) (k : Int) :
    Calls Tryz.prog 158 #[.pointer (some ⟨x, 0, none⟩), .slice A 0 c, .int .i64 k] w fun e w' => e = .returned (.tuple #[]) ∧ NdW w w' x d F { p with L := [], com := 0 } := by
  obtain ⟨a, s0, hr⟩ := h.open
  have HR := Lib.hid hr.take
  have hc0 := hr.com.1
  have S0 := Lib.hid s0
  have HRd := Lib.hid R
  clear h hr s0 R
  go_enter Tryz.func158, Tryz.ntmps158
  go_wp2_with fail
  refine (New_c w B A c 0 [] HRd.out).mono ?_
  rintro e w1 ⟨lg, FL, rfl, L1, hL, b1⟩
  have B1 : Blk w1 x 79 (ncs d p a) := Blk.past (show Blk w x 79 (ncs d p a) from S0.out.sep.get (i := 0) rfl) b1
  have S1 := Lib.hid (S0.out.put 2 rfl (pL_ok { p with L := [], com := 0 } { a with lg := lg, FL := FL }) b1 (show Lg w1 lg FL [] from L1) hL)
  have c9 : w1.cell? ⟨x, 9, none⟩ = some (.pointer (some ⟨a.lg, 0, none⟩)) := B1.cell rfl
  have f9 := B1.free 9
  have BB := Lib.hid B1
  clear B1 L1 hL b1
  go_wp2_with fail
  have T2 : Touch [x] w1 (w1.setCell ⟨x, 9, none⟩ (.pointer (some ⟨lg, 0, none⟩))) := (Touch.refl [x] w1).cell (g := x) (by simp) 9 _
  have B2 : Blk (w1.setCell ⟨x, 9, none⟩ (.pointer (some ⟨lg, 0, none⟩))) x 79 (ncs d p { a with lg := lg, FL := FL }) := BB.out.set 9 _
  have S2 := Lib.hid (S1.out.set 0 rfl (pX_ok x d p { a with lg := lg, FL := FL }) T2 B2 (fun k hk => .inl hk))
  clear c9 f9 T2 BB S1
  generalize w1.setCell ⟨x, 9, none⟩ (.pointer (some ⟨lg, 0, none⟩)) = w2 at *
  have L2 : Hid (Lg w2.drew lg FL []) := Lib.hid (Lg.drew (show Lg w2 lg FL [] from S2.out.sep.get (i := 2) rfl))
  have c9 : w2.cell? ⟨x, 9, none⟩ = some (.pointer (some ⟨lg, 0, none⟩)) := B2.cell rfl
  have c10 : w2.cell? ⟨x, 10, none⟩ = some (.int .i64 p.com) := B2.cell rfl
  have f10 := B2.free 10
  have BB := Lib.hid B2
  clear B2
  go_wp2_with fail
  go_region_with (go_at_call 144; refine (Len_c w2.drew lg FL [] L2.out).mono ?_; rintro e w3 ⟨rfl, rfl⟩)
  all_goals
    have e0 : min (max p.com k) 0 = 0 := Int.min_eq_right (Int.le_trans hc0 (Int.le_max_left ..))
    rw [e0]
    go_end0
    have B3 : Blk (w2.setCell ⟨x, 10, none⟩ (.int .i64 0)) x 79 (ncs d { p with L := [], com := 0 } { a with lg := lg, FL := FL }) := BB.out.set 10 _
    have T3 : Touch [x] w2 (w2.setCell ⟨x, 10, none⟩ (.int .i64 0)) := (Touch.refl [x] w2).cell (g := x) (by simp) 10 _
    have S3 := S2.out.set 0 rfl (pX_ok x d { p with L := [], com := 0 } { a with lg := lg, FL := FL }) T3 B3 (fun k hk => .inl hk)
    exact ⟨rfl, (show St okN w _ F (parts x d { p with L := [], com := 0 } { a with lg := lg, FL := FL }) from S3.drew).shut HR.out⟩
end Go.Proofs.YtacipjdaiglnjaaGreatDoor

/- Teams: one less. -/
namespace Go.Proofs.YtacipjdaiglnjaaGreatDoor
open Go.RowKit

theorem tWithout_c (w : World) (t : Nat) (id : Int) (ht : t < 128) :
    Calls Tryz.prog 163 #[.int .i64 t, .int .i64 id] w fun e w' => e = .returned (.int .i64 (PTeam.wout t id : Nat)) ∧ w = w' := by
  have ho := PTeam.one_lt id
  have e1 := i64_without t (PTeam.one id) ht ho
  go_enter Tryz.func163, Tryz.ntmps163
  go_wp2_with fail
  refine (tOnly_c w id).mono ?_
  rintro e w' ⟨rfl, rfl⟩
  go_wp2_with fail
  go_ret
  exact ⟨rfl, rfl⟩

end Go.Proofs.YtacipjdaiglnjaaGreatDoor

/- Contracts: List, the statements' begun, cut. -/
namespace Go.Proofs.YtacipjdaiglnjaaGreatDoor
open Go.RowKit

set_option maxRecDepth 100000 in
theorem tList_c (w : World) (t : Nat) (ht : t < 128) :
    Calls Tryz.prog 164 #[.int .i64 t] w fun e w' => ∃ A c, e = .returned (.slice A (PTeam.cnt t) c) ∧ w'.ownsRow w.heap.size 3 1 (.slice A (PTeam.cnt t) c) (PTeam.cnt t) (is (PTeam.lst t)) ∧ Below w.heap.size w w' := by
  obtain ⟨i0, hi, hz0, hz1, hz2⟩ := info_parts int_info
  have h7 := PTeam.cnt_le t
  have hall := PTeam.cnt_all t
  have HA := Lib.hid hall; clear hall
  go_enter Tryz.func164, Tryz.ntmps164
  go_wp2_with fail
  refine (tLen_c w t ht).mono ?_
  rintro e w' ⟨rfl, rfl⟩
  go_wp2_with (at_make; refine wpList_make_own _ rfl _ _ 65 rfl w.heap.size 3 i0 (.int .i64 0) 1 Tryz.underlying65 hi hz0 hz1 _ _ _ (PTeam.cnt t) rfl rfl (by omega) ?b2 ?b3 (Nat.le_refl _) ?_)
  case b2 => rw [hz2]; omega
  case b3 => unfold maxLen; omega
  intro w0 hown0 hgrow0
  have hb0 : Below w.heap.size w w0 := (Below.refl _ _).grown hgrow0 (Nat.le_refl _) (fun k h => by cases h)
  go_wp2
  go_loopw [3, 4] (fun s3 s4 wr => ∃ (k : Nat) (A : Option Addr) (c : Nat), k ≤ 7 ∧ s4 = .int .i64 ((k : Int) + 1) ∧ s3 = .slice A (PTeam.cntTo t k) c ∧ wr.ownsRow w.heap.size 3 1 (.slice A (PTeam.cntTo t k) c) (PTeam.cntTo t k) (is (PTeam.lstTo t k)) ∧ Below w.heap.size w wr)
    (fun _ s4 _ => 8 - (intOf s4).toNat)
  case atStart => exact ⟨0, _, _, by omega, rfl, rfl, hown0, hb0⟩
  case round =>
    obtain ⟨k, A, c, hk, rfl, rfl, hown, hbr⟩ := hrel
    have hsz := hbr.size
    have hle := PTeam.lstTo_le t k
    by_cases hlt : k < 7
    · have hsn := PTeam.lstTo_succ t k
      have hcs := PTeam.cntTo_succ t k ht hlt
      have HS := Lib.hid hsn; have HC := Lib.hid hcs; clear hsn hcs
      have hbit := PTeam.has_in t k ht hlt
      have HB := Lib.hid hbit; clear hbit
      cases hh : PTeam.has t ((k : Int) + 1)
      · go_wp2_with fail
        refine (tHas_c wr t _ ht).mono ?_
        rintro e w' ⟨rfl, rfl⟩
        go_wp2_with fail
        go_roundw
        case rel =>
          have e1 : PTeam.cntTo t (k + 1) = PTeam.cntTo t k := by rw [HC.out, hh]; simp
          have e2 : PTeam.lstTo t (k + 1) = PTeam.lstTo t k := by rw [HS.out, ← HB.out, hh]; simp
          rw [← e1, ← e2] at hown
          exact ⟨k + 1, A, c, by omega, by go_num, by rw [e1], hown, hbr⟩
        case measure => simp [intOf]; omega
      · have hn : PTeam.cntTo t k ≤ 7 := Nat.le_trans hle hk
        go_wp2_with fail
        refine (tHas_c wr t _ ht).mono ?_
        rintro e w' ⟨rfl, rfl⟩
        go_wp2_with (at_builtin; go_must (refine wpList_push rfl (.tmp 15) (.tmp 17) _ rfl w.heap.size 3 _ 8 Tryz.underlying65 int_info rfl A c _ (is (PTeam.lstTo t k)) rfl hown rfl rfl ?c2 ?c3 ?c4 ?_))
        case c2 => unfold maxLen; omega
        case c3 => omega
        case c4 => omega
        intro A2 c2 w2 hown2 hgrow2 hbel2
        go_wp2
        go_roundw
        case rel =>
          have e1 : PTeam.cntTo t (k + 1) = PTeam.cntTo t k + 1 := by rw [HC.out, hh]; simp
          have e2 : is (PTeam.lstTo t (k + 1)) = is (PTeam.lstTo t k) ++ [.int .i64 ((k : Int) + 1)] := by rw [HS.out, ← HB.out, hh]; simp [is]
          rw [← e1, ← e2] at hown2
          exact ⟨k + 1, A2, c2, by omega, by go_num, by rw [e1], hown2, hbr.trans hbel2⟩
        case measure => simp [intOf]; omega
    · obtain rfl : k = 7 := by omega
      rw [HA.out] at hown ⊢
      go_wp2
      go_ret
      exact ⟨A, c, rfl, hown, hbr⟩

end Go.Proofs.YtacipjdaiglnjaaGreatDoor

/- A process: who else is in its view (others); what it says when it installs one (installMsg), where its log is empty. -/
namespace Go.Proofs.YtacipjdaiglnjaaGreatDoor
open Go.RowKit PNode

theorem others_c {w : World} {x d : Nat} {p : Np} {a : Na} (B : Blk w x 79 (ncs d p a)) (hm : p.mem < 128) :
    Calls Tryz.prog 115 #[.pointer (some ⟨x, 0, none⟩)] w fun e w' => ∃ A c, e = .returned (.slice A (PTeam.cnt (PTeam.wout p.mem p.id)) c) ∧ w'.ownsRow w.heap.size 3 1 (.slice A (PTeam.cnt (PTeam.wout p.mem p.id)) c) (PTeam.cnt (PTeam.wout p.mem p.id)) (is (PTeam.lst (PTeam.wout p.mem p.id))) ∧ Below w.heap.size w w' := by
  have HB := Lib.hid B
  have HM := Lib.hid hm
  clear B hm
  go_enter Tryz.func115, Tryz.ntmps115
  go_wp2_with fail
-- REGION (*curfew/node.Node).others 1 nothers 2
  refine Hb.begin ?_
  refine Hb.take (v := .pointer (some ⟨x, 0, none⟩)) 0 3 rfl ?_ (fun _ _ => rfl)
  refine Hb.take (v := .pointer (some ⟨x, 0, none⟩)) 1 4 rfl ?_ (fun w' hw' => by go_simp; first | done | rfl | (simp; omega))
  refine Hb.take (v := .pointer (some ⟨x, 8, none⟩)) 2 5 rfl ?_ (fun w' hw' => by go_simp; first | done | rfl | (simp; omega))
  refine Hb.take (v := .int .i64 p.mem) 3 6 rfl ?_ (fun w' hw' => by exact ldTeam (Blk.cell (i := 8) (Blk.past (show Blk w.drew x 79 (ncs d p a) from HB.out) hw') rfl) rfl)
  refine Hb.take (v := .pointer (some ⟨x, 0, none⟩)) 4 7 rfl ?_ (fun _ _ => rfl)
  refine Hb.take (v := .pointer (some ⟨x, 0, none⟩)) 5 8 rfl ?_ (fun w' hw' => by go_simp; first | done | rfl | (simp; omega))
  refine Hb.take (v := .pointer (some ⟨x, 0, none⟩)) 6 9 rfl ?_ (fun w' hw' => by go_simp; first | done | rfl | (simp; omega))
  refine Hb.take (v := .int .i64 p.id) 7 10 rfl ?_ (fun w' hw' => by exact ldInt (Blk.cell (i := 0) (Blk.past (show Blk w.drew x 79 (ncs d p a) from HB.out) hw') rfl) rfl)
  refine Hb.call (f := 163) (args := #[.int .i64 p.mem, .int .i64 p.id]) 8 11 rfl ?_ (run_callf Tryz.func163 (by kernel_rfl) (by kernel_rfl) (by simp only [List.map_toArray, List.map_cons, List.map_nil]; rfl))
  refine (tWithout_c w.drew p.mem p.id HM.out).mono ?_
  rintro e w2 ⟨rfl, rfl⟩
  refine Hb.back (Below.refl _ _) (Nat.le_refl _) ?_
  refine Hb.call (f := 164) (args := #[.int .i64 (PTeam.wout p.mem p.id : Nat)]) 9 12 rfl ?_ (run_callf Tryz.func164 (by kernel_rfl) (by kernel_rfl) (by simp only [List.map_toArray, List.map_cons, List.map_nil]; rfl))
  refine (tList_c w.drew (PTeam.wout p.mem p.id) (PTeam.wout_lt HM.out _)).mono ?_
  rintro e w3 ⟨A, c, rfl, o3, b3⟩
  have O3 := Lib.hid o3
  have b3' := Lib.hid b3
  clear o3
  refine Hb.back b3 b3.size ?_
  refine Hb.take (v := .slice A (PTeam.cnt (PTeam.wout p.mem p.id)) c) 10 2 rfl ?_ (fun _ _ => rfl)
  refine Hb.done ?_
-- END
  go_wp2_with fail
  go_ret
  exact ⟨A, c, rfl, O3.out, (Below.refl _ _).drew.trans b3'.out⟩

def instM (p : Np) : Msg := ⟨4, 0, 0, 0, p.last, 0, p.mem, 0, [], 0, 0, 0, false⟩

set_option maxHeartbeats 4000000 in
set_option maxRecDepth 100000 in
theorem installMsg_c {w : World} {x d : Nat} {p : Np} {a : Na} (B : Blk w x 79 (ncs d p a)) (L : Lg w a.lg a.FL []) (hc : p.com = 0) (dst : Int) :
    Calls Tryz.prog 117 #[.pointer (some ⟨x, 0, none⟩), .int .i64 dst] w fun e w' => ∃ A c, e = .returned (mv (sends p dst (instM p)) A c) ∧ Below w.heap.size w w' := by
  have hp : ({ p with com := 0 } : Np) = p := by
    cases p
    simp only at hc
    rw [hc]
  have HLT := Lib.hid B.lt
  have HB : Hid (Blk (w.alloc (.cells #[.int .i64 0, .int .i64 0, .int .i64 0, .int .i64 0, .int .i64 0, .int .i64 0, .int .i64 0, .int .i64 0, .slice none 0 0, .int .i64 0, .int .i64 0, .int .i64 0, .bool false] 31)) x 79 (ncs d { p with com := 0 } a)) := Lib.hid (by rw [hp]; exact B.alloc _)
  have HL : Hid (Lg (w.alloc (.cells #[.int .i64 0, .int .i64 0, .int .i64 0, .int .i64 0, .int .i64 0, .int .i64 0, .int .i64 0, .int .i64 0, .slice none 0 0, .int .i64 0, .int .i64 0, .int .i64 0, .bool false] 31)) a.lg a.FL []) := Lib.hid (L.alloc _)
  have K0 : Hid (Blk (w.alloc (.cells #[.int .i64 0, .int .i64 0, .int .i64 0, .int .i64 0, .int .i64 0, .int .i64 0, .int .i64 0, .int .i64 0, .slice none 0 0, .int .i64 0, .int .i64 0, .int .i64 0, .bool false] 31)).drew w.heap.size 31 _) := Lib.hid (Blk.new w #[.int .i64 0, .int .i64 0, .int .i64 0, .int .i64 0, .int .i64 0, .int .i64 0, .int .i64 0, .int .i64 0, .slice none 0 0, .int .i64 0, .int .i64 0, .int .i64 0, .bool false] 31)
  have b0 := Lib.hid ((Below.refl w.heap.size w).alloc (Nat.le_refl _) (.cells #[.int .i64 0, .int .i64 0, .int .i64 0, .int .i64 0, .int .i64 0, .int .i64 0, .int .i64 0, .int .i64 0, .slice none 0 0, .int .i64 0, .int .i64 0, .int .i64 0, .bool false] 31))
  clear B L hc hp
  go_enter Tryz.func117, Tryz.ntmps117
  go_wp2_with fail
  generalize w.alloc (.cells #[.int .i64 0, .int .i64 0, .int .i64 0, .int .i64 0, .int .i64 0, .int .i64 0, .int .i64 0, .int .i64 0, .slice none 0 0, .int .i64 0, .int .i64 0, .int .i64 0, .bool false] 31) = W at *
-- REGION (*curfew/node.Node).installMsg 1 ninstmsg 2
  refine Hb.beginB (B := w.heap.size) ?_
  refine Hb.take (v := .pointer (some ⟨x, 0, none⟩)) 0 5 rfl ?_ (fun _ _ => rfl)
  refine Hb.take (v := .int .i64 dst) 1 6 rfl ?_ (fun _ _ => rfl)
  refine Hb.take (v := .pointer (some ⟨x, 0, none⟩)) 2 7 rfl ?_ (fun _ _ => rfl)
  refine Hb.take (v := .pointer (some ⟨x, 0, none⟩)) 3 8 rfl ?_ (fun w' hw' => by go_simp; first | done | rfl | (simp; omega))
  refine Hb.take (v := .pointer (some ⟨x, 7, none⟩)) 4 9 rfl ?_ (fun w' hw' => by go_simp; first | done | rfl | (simp; omega))
  refine Hb.take (v := .int .i64 p.last) 5 10 rfl ?_ (fun w' hw' => by exact ldI64 (Blk.cell (i := 7) (Blk.below (show Blk W.drew x 79 (ncs d { p with com := 0 } a) from HB.out) hw' HLT.out) rfl) rfl)
  refine Hb.take (v := .pointer (some ⟨x, 0, none⟩)) 6 11 rfl ?_ (fun _ _ => rfl)
  refine Hb.take (v := .pointer (some ⟨x, 0, none⟩)) 7 12 rfl ?_ (fun w' hw' => by go_simp; first | done | rfl | (simp; omega))
  refine Hb.take (v := .pointer (some ⟨x, 8, none⟩)) 8 13 rfl ?_ (fun w' hw' => by go_simp; first | done | rfl | (simp; omega))
  refine Hb.take (v := .int .i64 p.mem) 9 14 rfl ?_ (fun w' hw' => by exact ldTeam (Blk.cell (i := 8) (Blk.below (show Blk W.drew x 79 (ncs d { p with com := 0 } a) from HB.out) hw' HLT.out) rfl) rfl)
  refine Hb.take (v := .pointer (some ⟨x, 0, none⟩)) 10 15 rfl ?_ (fun _ _ => rfl)
  refine Hb.take (v := .pointer (some ⟨x, 0, none⟩)) 11 16 rfl ?_ (fun w' hw' => by go_simp; first | done | rfl | (simp; omega))
  refine Hb.take (v := .pointer (some ⟨x, 9, none⟩)) 12 17 rfl ?_ (fun w' hw' => by go_simp; first | done | rfl | (simp; omega))
  refine Hb.take (v := .pointer (some ⟨a.lg, 0, none⟩)) 13 18 rfl ?_ (fun w' hw' => by exact ldLog (Blk.cell (i := 9) (Blk.below (show Blk W.drew x 79 (ncs d { p with com := 0 } a) from HB.out) hw' HLT.out) rfl) rfl)
  refine Hb.take (v := .pointer (some ⟨x, 0, none⟩)) 15 20 rfl ?_ (fun _ _ => rfl)
  refine Hb.take (v := .pointer (some ⟨x, 0, none⟩)) 16 21 rfl ?_ (fun w' hw' => by go_simp; first | done | rfl | (simp; omega))
  refine Hb.take (v := .pointer (some ⟨x, 10, none⟩)) 17 22 rfl ?_ (fun w' hw' => by go_simp; first | done | rfl | (simp; omega))
  refine Hb.take (v := .int .i64 0) 18 23 rfl ?_ (fun w' hw' => by exact ldInt (Blk.cell (i := 10) (Blk.below (show Blk W.drew x 79 (ncs d { p with com := 0 } a) from HB.out) hw' HLT.out) rfl) rfl)
  refine Hb.call (f := 38) (args := #[.pointer (some ⟨a.lg, 0, none⟩), .int .i64 0]) 14 19 rfl ?_ (run_callf Tryz.func38 (by kernel_rfl) (by kernel_rfl) (by simp only [List.map_toArray, List.map_cons, List.map_nil]; rfl))
  refine (From_none (show Lg W.drew a.lg a.FL [] from HL.out.drew)).mono ?_
  rintro e w7 ⟨A7, c7, rfl, o7, b7⟩
  have B7 := Lib.hid (Blk.past (show Blk W.drew x 79 (ncs d { p with com := 0 } a) from HB.out) b7)
  have K7 := Lib.hid (K0.out.past b7)
  have b7' := Lib.hid (b0.out.drew.trans (b7.mono b0.out.size))
  clear o7
  refine Hb.back (B' := w.heap.size) (b7.mono b0.out.size) (Nat.le_refl _) ?_
  refine Hb.take (v := .agg #[.int .i64 4, .int .i64 0, .int .i64 0, .int .i64 0, .int .i64 p.last, .int .i64 0, .int .i64 p.mem, .int .i64 0, .slice A7 0 c7, .int .i64 0, .int .i64 0, .int .i64 0, .bool false]) 19 24 rfl ?_ (fun w' hw' => by go_simp; first | done | rfl | omega | exact wrap_in (by omega) (by omega) | exact Int.tmod_eq_emod_of_nonneg (by omega) | exact Int.tdiv_eq_ediv_of_nonneg (by omega) | (simp; omega))
  refine Hb.call (f := 122) (args := #[.pointer (some ⟨x, 0, none⟩), .int .i64 dst, .agg #[.int .i64 4, .int .i64 0, .int .i64 0, .int .i64 0, .int .i64 p.last, .int .i64 0, .int .i64 p.mem, .int .i64 0, .slice A7 0 c7, .int .i64 0, .int .i64 0, .int .i64 0, .bool false]]) 20 25 rfl ?_ (run_callf Tryz.func122 (by kernel_rfl) (by kernel_rfl) (by simp only [List.map_toArray, List.map_cons, List.map_nil]; rfl))
  refine (to_c B7.out dst (instM p) A7 c7).mono ?_
  rintro e w8 ⟨rfl, b8⟩
  have K8 := Lib.hid (K7.out.past b8)
  have b8' := Lib.hid (b7'.out.trans (b8.mono b7'.out.size))
  refine Hb.back (B' := w.heap.size) (b8.mono b7'.out.size) (Nat.le_refl _) ?_
  refine Hb.only 21 none rfl ?_
  refine wpList_store_row rfl 31 (.tmp 4) (.tmp 25) rfl w.heap.size _ rfl rfl _ _ K8.out (by kernel_rfl) (by rfl) (by kernel_rfl) ?_
  refine Hb.next (B' := w.heap.size) (grown_below (grown_row w8 w.heap.size _) (Nat.le_refl _) (b8'.out.size)) (Nat.le_refl _) ?_
  refine Hb.done ?_
-- END
  go_wp2_with fail
  have K9 := K8.out.row (mcs (sends p dst (instM p)) A7 c7).toArray
  refine bodyPost_ret (v := mv (sends p dst (instM p)) A7 c7) (results_cell_row rfl _ _ w.heap.size _ _ _ _ rfl K9 Tryz.underlying31 rfl (by kernel_rfl)) rfl ⟨A7, c7, rfl, ?_⟩
  exact b8'.out.trans (grown_below (grown_row w8 w.heap.size _) (Nat.le_refl _) b8'.out.size)
end Go.Proofs.YtacipjdaiglnjaaGreatDoor

/- The library's sort of ints and of int64s, laid at this program's numbers. Made by program (lays21.py). -/
namespace Go.Proofs.YtacipjdaiglnjaaGreatDoor
open Go.Shelf
def laySortI_ren : Go.Shelf.Ren := ⟨fun | 5 => 212 | 8 => 204 | 7 => 231 | 19 => 227 | 20 => 228 | 10 => 245 | 11 => 246 | 12 => 247 | 13 => 248 | 14 => 249 | 15 => 250 | 16 => 251 | 17 => 252 | 18 => 253 | 30 => 258 | 31 => 240 | 32 => 241 | 33 => 259 | 34 => 260 | 35 => 234 | 40 => 262 | n => n, fun | 23 => 65 | 25 => 3 | 3 => 3 | 32 => 166 | 22 => 65 | 0 => 0 | 44 => 164 | 46 => 163 | 4 => 4 | 36 => 272 | 35 => 271 | 41 => 277 | 5 => 5 | 9 => 9 | 53 => 284 | 57 => 288 | 63 => 298 | 64 => 299 | n => n, fun | n => n⟩
theorem laySortI : Go.Proofs.SlLaysM.n5 Tryz.prog laySortI_ren := {
  mixed := by kernel_rfl
  f5 := ⟨Tryz.f212.name, by decide, Tryz.func212.trans (congrArg some (by kernel_rfl))⟩
  f7 := ⟨Tryz.f231.name, by decide, Tryz.func231.trans (congrArg some (by kernel_rfl))⟩
  f8 := Tryz.func204.trans (congrArg some (by kernel_rfl))
  f10 := ⟨Tryz.f245.name, by decide, Tryz.func245.trans (congrArg some (by kernel_rfl))⟩
  f11 := ⟨Tryz.f246.name, by decide, Tryz.func246.trans (congrArg some (by kernel_rfl))⟩
  f12 := ⟨Tryz.f247.name, by decide, Tryz.func247.trans (congrArg some (by kernel_rfl))⟩
  f13 := ⟨Tryz.f248.name, by decide, Tryz.func248.trans (congrArg some (by kernel_rfl))⟩
  f14 := ⟨Tryz.f249.name, by decide, Tryz.func249.trans (congrArg some (by kernel_rfl))⟩
  f15 := ⟨Tryz.f250.name, by decide, Tryz.func250.trans (congrArg some (by kernel_rfl))⟩
  f16 := ⟨Tryz.f251.name, by decide, Tryz.func251.trans (congrArg some (by kernel_rfl))⟩
  f17 := ⟨Tryz.f252.name, by decide, Tryz.func252.trans (congrArg some (by kernel_rfl))⟩
  f18 := ⟨Tryz.f253.name, by decide, Tryz.func253.trans (congrArg some (by kernel_rfl))⟩
  f19 := Tryz.func227.trans (congrArg some (by kernel_rfl))
  f20 := Tryz.func228.trans (congrArg some (by kernel_rfl))
  f30 := ⟨Tryz.f258.name, by decide, Tryz.func258.trans (congrArg some (by kernel_rfl))⟩
  f31 := Tryz.func240.trans (congrArg some (by kernel_rfl))
  f32 := Tryz.func241.trans (congrArg some (by kernel_rfl))
  f33 := ⟨Tryz.f259.name, by decide, Tryz.func259.trans (congrArg some (by kernel_rfl))⟩
  f34 := ⟨Tryz.f260.name, by decide, Tryz.func260.trans (congrArg some (by kernel_rfl))⟩
  f35 := ⟨Tryz.f234.name, by decide, Tryz.func234.trans (congrArg some (by kernel_rfl))⟩
  f40 := ⟨Tryz.f262.name, by decide, Tryz.func262.trans (congrArg some (by kernel_rfl))⟩
  t0 := Tryz.underlying0
  a0 := Tryz.isAgg0
  z0 := Tryz.sizeOf0
  v0 := Tryz.zeroValue0
  t3 := Tryz.underlying3
  a3 := Tryz.isAgg3
  z3 := Tryz.sizeOf3
  v3 := Tryz.zeroValue3
  t4 := Tryz.underlying4
  a4 := Tryz.isAgg4
  z4 := Tryz.sizeOf4
  v4 := Tryz.zeroValue4
  t5 := Tryz.underlying5
  a5 := Tryz.isAgg5
  z5 := Tryz.sizeOf5
  v5 := Tryz.zeroValue5
  t9 := Tryz.underlying9
  a9 := Tryz.isAgg9
  z9 := Tryz.sizeOf9
  v9 := Tryz.zeroValue9
  t22 := Tryz.underlying65
  a22 := Tryz.isAgg65
  z22 := Tryz.sizeOf65
  v22 := Tryz.zeroValue65
  t23 := Tryz.underlying65
  a23 := Tryz.isAgg65
  z23 := Tryz.sizeOf65
  v23 := Tryz.zeroValue65
  t25 := Tryz.underlying3
  a25 := Tryz.isAgg3
  z25 := Tryz.sizeOf3
  v25 := Tryz.zeroValue3
  t32 := Tryz.underlying166
  a32 := Tryz.isAgg166
  z32 := Tryz.sizeOf166
  v32 := Tryz.zeroValue166
  t35 := Tryz.underlying271
  a35 := Tryz.isAgg271
  z35 := Tryz.sizeOf271
  v35 := Tryz.zeroValue271
  t36 := Tryz.underlying272
  a36 := Tryz.isAgg272
  z36 := Tryz.sizeOf272
  v36 := Tryz.zeroValue272
  t41 := Tryz.underlying277
  a41 := Tryz.isAgg277
  z41 := Tryz.sizeOf277
  v41 := Tryz.zeroValue277
  t44 := Tryz.underlying164
  a44 := Tryz.isAgg164
  z44 := Tryz.sizeOf164
  v44 := Tryz.zeroValue164
  t46 := Tryz.underlying163
  a46 := Tryz.isAgg163
  z46 := Tryz.sizeOf163
  v46 := Tryz.zeroValue163
  t53 := Tryz.underlying284
  a53 := Tryz.isAgg284
  z53 := Tryz.sizeOf284
  v53 := Tryz.zeroValue284
  t57 := Tryz.underlying288
  a57 := Tryz.isAgg288
  z57 := Tryz.sizeOf288
  v57 := Tryz.zeroValue288
  t63 := Tryz.underlying298
  a63 := Tryz.isAgg298
  z63 := Tryz.sizeOf298
  v63 := Tryz.zeroValue298
  t64 := Tryz.underlying299
  a64 := Tryz.isAgg299
  z64 := Tryz.sizeOf299
  v64 := Tryz.zeroValue299 }
def laySortL_ren : Go.Shelf.Ren := ⟨fun | 5 => 254 | 8 => 204 | 7 => 261 | 19 => 227 | 20 => 228 | 10 => 263 | 11 => 264 | 12 => 265 | 13 => 266 | 14 => 267 | 15 => 268 | 16 => 269 | 17 => 270 | 18 => 271 | 30 => 272 | 31 => 240 | 32 => 241 | 33 => 273 | 34 => 274 | 35 => 233 | 40 => 275 | n => n, fun | 23 => 118 | 25 => 2 | 3 => 3 | 32 => 166 | 22 => 118 | 0 => 0 | 44 => 164 | 46 => 163 | 4 => 4 | 36 => 272 | 35 => 271 | 41 => 277 | 5 => 5 | 9 => 9 | 53 => 284 | 57 => 288 | 63 => 298 | 64 => 299 | n => n, fun | n => n⟩
theorem laySortL : Go.Proofs.SlLaysM.n5 Tryz.prog laySortL_ren := {
  mixed := by kernel_rfl
  f5 := ⟨Tryz.f254.name, by decide, Tryz.func254.trans (congrArg some (by kernel_rfl))⟩
  f7 := ⟨Tryz.f261.name, by decide, Tryz.func261.trans (congrArg some (by kernel_rfl))⟩
  f8 := Tryz.func204.trans (congrArg some (by kernel_rfl))
  f10 := ⟨Tryz.f263.name, by decide, Tryz.func263.trans (congrArg some (by kernel_rfl))⟩
  f11 := ⟨Tryz.f264.name, by decide, Tryz.func264.trans (congrArg some (by kernel_rfl))⟩
  f12 := ⟨Tryz.f265.name, by decide, Tryz.func265.trans (congrArg some (by kernel_rfl))⟩
  f13 := ⟨Tryz.f266.name, by decide, Tryz.func266.trans (congrArg some (by kernel_rfl))⟩
  f14 := ⟨Tryz.f267.name, by decide, Tryz.func267.trans (congrArg some (by kernel_rfl))⟩
  f15 := ⟨Tryz.f268.name, by decide, Tryz.func268.trans (congrArg some (by kernel_rfl))⟩
  f16 := ⟨Tryz.f269.name, by decide, Tryz.func269.trans (congrArg some (by kernel_rfl))⟩
  f17 := ⟨Tryz.f270.name, by decide, Tryz.func270.trans (congrArg some (by kernel_rfl))⟩
  f18 := ⟨Tryz.f271.name, by decide, Tryz.func271.trans (congrArg some (by kernel_rfl))⟩
  f19 := Tryz.func227.trans (congrArg some (by kernel_rfl))
  f20 := Tryz.func228.trans (congrArg some (by kernel_rfl))
  f30 := ⟨Tryz.f272.name, by decide, Tryz.func272.trans (congrArg some (by kernel_rfl))⟩
  f31 := Tryz.func240.trans (congrArg some (by kernel_rfl))
  f32 := Tryz.func241.trans (congrArg some (by kernel_rfl))
  f33 := ⟨Tryz.f273.name, by decide, Tryz.func273.trans (congrArg some (by kernel_rfl))⟩
  f34 := ⟨Tryz.f274.name, by decide, Tryz.func274.trans (congrArg some (by kernel_rfl))⟩
  f35 := ⟨Tryz.f233.name, by decide, Tryz.func233.trans (congrArg some (by kernel_rfl))⟩
  f40 := ⟨Tryz.f275.name, by decide, Tryz.func275.trans (congrArg some (by kernel_rfl))⟩
  t0 := Tryz.underlying0
  a0 := Tryz.isAgg0
  z0 := Tryz.sizeOf0
  v0 := Tryz.zeroValue0
  t3 := Tryz.underlying3
  a3 := Tryz.isAgg3
  z3 := Tryz.sizeOf3
  v3 := Tryz.zeroValue3
  t4 := Tryz.underlying4
  a4 := Tryz.isAgg4
  z4 := Tryz.sizeOf4
  v4 := Tryz.zeroValue4
  t5 := Tryz.underlying5
  a5 := Tryz.isAgg5
  z5 := Tryz.sizeOf5
  v5 := Tryz.zeroValue5
  t9 := Tryz.underlying9
  a9 := Tryz.isAgg9
  z9 := Tryz.sizeOf9
  v9 := Tryz.zeroValue9
  t22 := Tryz.underlying118
  a22 := Tryz.isAgg118
  z22 := Tryz.sizeOf118
  v22 := Tryz.zeroValue118
  t23 := Tryz.underlying118
  a23 := Tryz.isAgg118
  z23 := Tryz.sizeOf118
  v23 := Tryz.zeroValue118
  t25 := Tryz.underlying2
  a25 := Tryz.isAgg2
  z25 := Tryz.sizeOf2
  v25 := Tryz.zeroValue2
  t32 := Tryz.underlying166
  a32 := Tryz.isAgg166
  z32 := Tryz.sizeOf166
  v32 := Tryz.zeroValue166
  t35 := Tryz.underlying271
  a35 := Tryz.isAgg271
  z35 := Tryz.sizeOf271
  v35 := Tryz.zeroValue271
  t36 := Tryz.underlying272
  a36 := Tryz.isAgg272
  z36 := Tryz.sizeOf272
  v36 := Tryz.zeroValue272
  t41 := Tryz.underlying277
  a41 := Tryz.isAgg277
  z41 := Tryz.sizeOf277
  v41 := Tryz.zeroValue277
  t44 := Tryz.underlying164
  a44 := Tryz.isAgg164
  z44 := Tryz.sizeOf164
  v44 := Tryz.zeroValue164
  t46 := Tryz.underlying163
  a46 := Tryz.isAgg163
  z46 := Tryz.sizeOf163
  v46 := Tryz.zeroValue163
  t53 := Tryz.underlying284
  a53 := Tryz.isAgg284
  z53 := Tryz.sizeOf284
  v53 := Tryz.zeroValue284
  t57 := Tryz.underlying288
  a57 := Tryz.isAgg288
  z57 := Tryz.sizeOf288
  v57 := Tryz.zeroValue288
  t63 := Tryz.underlying298
  a63 := Tryz.isAgg298
  z63 := Tryz.sizeOf298
  v63 := Tryz.zeroValue298
  t64 := Tryz.underlying299
  a64 := Tryz.isAgg299
  z64 := Tryz.sizeOf299
  v64 := Tryz.zeroValue299 }
end Go.Proofs.YtacipjdaiglnjaaGreatDoor

/- Contracts: slices.Sort of a whole array, reached; of []int, []int64. -/
namespace Go.Proofs.YtacipjdaiglnjaaGreatDoor
open Go.RowKit PQuo

theorem putCells_all (S l : List Int) (h : S.length = l.length) : Sort.putCells (Value.int .i64) 0 S.toArray (is l).toArray = (is S).toArray := by
  apply Array.ext_getElem?
  intro j
  by_cases hj : j < S.length
  · have h1 : (is l)[j]? = some (.int .i64 l[j]) := by
      simp [is, List.getElem?_eq_getElem (show j < l.length by omega)]
    have h2 : (is S)[j]? = some (.int .i64 S[j]) := by
      simp [is, List.getElem?_eq_getElem hj]
    simp only [Sort.putCells, Array.getElem?_mapIdx, List.getElem?_toArray, h1, h2, Option.map_some, List.size_toArray]
    rw [if_pos ⟨Nat.zero_le _, by omega⟩]
    simp [hj]
  · have h1 : (is l)[j]? = none := List.getElem?_eq_none (by rw [is_length]; omega)
    have h2 : (is S)[j]? = none := List.getElem?_eq_none (by rw [is_length]; omega)
    simp only [Sort.putCells, Array.getElem?_mapIdx, List.getElem?_toArray, h1, h2, Option.map_none]
theorem sort_done (w : World) (g : Nat) (T : TypeId) (l : List Int) (hB : Blk w g T (is l)) (f : FuncId)
    (key : Calls Tryz.prog f #[.slice (some ⟨g, 0, none⟩) l.length l.length] w fun e w' => e = .returned (.tuple #[]) ∧ ∃ n os, w' = Sort.grow (Sort.putRow (Value.int .i64) (Sort.ahead w n) g 0 (l.mergeSort fun x y => decide (x ≤ y)).toArray) os) :
    Calls Tryz.prog f #[.slice (some ⟨g, 0, none⟩) l.length l.length] w fun e w' => e = .returned (.tuple #[]) ∧ ∃ S, S.Perm l ∧ S.Pairwise (· ≤ ·) ∧ Blk w' g T (is S) ∧ Touch [g] w w' := by
  refine key.mono ?_
  rintro e w' ⟨he, k, os, rfl⟩
  have hlen := List.length_mergeSort (le := fun x y : Int => decide (x ≤ y)) l
  have hp := List.pairwise_mergeSort (le := fun x y : Int => decide (x ≤ y)) (fun a b c h1 h2 => by simp at h1 h2 ⊢; omega) (fun a b => by simp; omega) l
  have hq := heap_sortedI (n := k) (os := os) (l.mergeSort fun x y => decide (x ≤ y)).toArray hB
  rw [putCells_all _ _ hlen] at hq
  exact ⟨he, _, List.mergeSort_perm l _, hp.imp (fun h => by simpa using h), hq, Touch.of_grown (grownBy_sortedI _)⟩
theorem sortI_c (w : World) (g : Nat) (T : TypeId) (l : List Int) (hl : l.length = 7) (hB : Blk w g T (is l)) :
    Calls Tryz.prog 212 #[.slice (some ⟨g, 0, none⟩) 7 7] w fun e w' => e = .returned (.tuple #[]) ∧ ∃ S, S.Perm l ∧ S.Pairwise (· ≤ ·) ∧ Blk w' g T (is S) ∧ Touch [g] w w' := by
  have ht : (is l).toArray.toList.take l.length = l.map (Value.int .i64) := by
    rw [List.toList_toArray, List.take_of_length_le (by rw [is_length]; omega)]; rfl
  have key := AnyM.slices_Sort_int laySortI g 0 l.length l w (holds_of_blockI hB ht) hB.lt (by omega)
  rw [← hl]
  exact sort_done w g T l hB _ key
theorem sortL_c (w : World) (g : Nat) (T : TypeId) (l : List Int) (hl : l.length = 7) (hB : Blk w g T (is l)) :
    Calls Tryz.prog 254 #[.slice (some ⟨g, 0, none⟩) 7 7] w fun e w' => e = .returned (.tuple #[]) ∧ ∃ S, S.Perm l ∧ S.Pairwise (· ≤ ·) ∧ Blk w' g T (is S) ∧ Touch [g] w w' := by
  have ht : (is l).toArray.toList.take l.length = l.map (Value.int .i64) := by
    rw [List.toList_toArray, List.take_of_length_le (by rw [is_length]; omega)]; rfl
  have key := AnyM.slices_Sort_int laySortL g 0 l.length l w (holds_of_blockI hB ht) hB.lt (by omega)
  rw [← hl]
  exact sort_done w g T l hB _ key

theorem reachI_c (w : World) (l : List Int) (n : Int) (hl : l.length = 7) (h3 : 3 ≤ n) (h7 : n ≤ 7) :
    Calls Tryz.prog 194 #[.agg (is l).toArray, .int .i64 n] w fun e w' => ∃ r, e = .returned (.int .i64 r) ∧ IsR l n r ∧ Below w.heap.size w w' := by
  obtain ⟨l0, l1, l2, l3, l4, l5, l6, rfl⟩ := seven l hl
  obtain ⟨q, hq⟩ : ∃ q : Nat, Int.tdiv n 2 = (q : Int) := ⟨(n / 2).toNat, by rw [Int.tdiv_eq_ediv_of_nonneg (by omega)]; omega⟩
  have hq1 : (q : Int) = n / 2 := by rw [← hq, Int.tdiv_eq_ediv_of_nonneg (by omega)]
  have hq3 : q ≤ 3 := by omega
  have HQ := Lib.hid hq1
  clear hq1 hl
  show Calls _ _ #[.agg #[.int .i64 l0, .int .i64 l1, .int .i64 l2, .int .i64 l3, .int .i64 l4, .int .i64 l5, .int .i64 l6], _] _ _
  have K0 := Lib.hid (Blk.new w #[.int .i64 l0, .int .i64 l1, .int .i64 l2, .int .i64 l3, .int .i64 l4, .int .i64 l5, .int .i64 l6] 224)
  go_enter Tryz.func194, Tryz.ntmps194
  go_wp2_with fail
  refine (sortI_c _ _ 224 [l0, l1, l2, l3, l4, l5, l6] rfl K0.out).mono ?_
  rintro e w1 ⟨rfl, S, hp, hs, hB, ht⟩
  have hR := of_sorted hp hs rfl n (6 - q) (by have := HQ.out; omega) (by omega)
  have hSl : S.length = 7 := hp.length_eq
  have cc := hB.cell (i := 6 - q) (is_get S (by omega))
  have B1 := Lib.hid (show Below w.heap.size w w1 from ((Below.refl w.heap.size w).alloc (Nat.le_refl _) _).trans (ht.below (by simp) (by simp)))
  have HR := Lib.hid hR
  clear hp hs hR ht hB hSl
  generalize S.getD (6 - q) 0 = r at *
  go_wp2_with fail
  go_ret
  exact ⟨r, rfl, HR.out, B1.out⟩
theorem reachL_c (w : World) (l : List Int) (n : Int) (hl : l.length = 7) (h3 : 3 ≤ n) (h7 : n ≤ 7) :
    Calls Tryz.prog 232 #[.agg (is l).toArray, .int .i64 n] w fun e w' => ∃ r, e = .returned (.int .i64 r) ∧ IsR l n r ∧ Below w.heap.size w w' := by
  obtain ⟨l0, l1, l2, l3, l4, l5, l6, rfl⟩ := seven l hl
  obtain ⟨q, hq⟩ : ∃ q : Nat, Int.tdiv n 2 = (q : Int) := ⟨(n / 2).toNat, by rw [Int.tdiv_eq_ediv_of_nonneg (by omega)]; omega⟩
  have hq1 : (q : Int) = n / 2 := by rw [← hq, Int.tdiv_eq_ediv_of_nonneg (by omega)]
  have hq3 : q ≤ 3 := by omega
  have HQ := Lib.hid hq1
  clear hq1 hl
  show Calls _ _ #[.agg #[.int .i64 l0, .int .i64 l1, .int .i64 l2, .int .i64 l3, .int .i64 l4, .int .i64 l5, .int .i64 l6], _] _ _
  have K0 := Lib.hid (Blk.new w #[.int .i64 l0, .int .i64 l1, .int .i64 l2, .int .i64 l3, .int .i64 l4, .int .i64 l5, .int .i64 l6] 170)
  go_enter Tryz.func232, Tryz.ntmps232
  go_wp2_with fail
  refine (sortL_c _ _ 170 [l0, l1, l2, l3, l4, l5, l6] rfl K0.out).mono ?_
  rintro e w1 ⟨rfl, S, hp, hs, hB, ht⟩
  have hR := of_sorted hp hs rfl n (6 - q) (by have := HQ.out; omega) (by omega)
  have hSl : S.length = 7 := hp.length_eq
  have cc := hB.cell (i := 6 - q) (is_get S (by omega))
  have B1 := Lib.hid (show Below w.heap.size w w1 from ((Below.refl w.heap.size w).alloc (Nat.le_refl _) _).trans (ht.below (by simp) (by simp)))
  have HR := Lib.hid hR
  clear hp hs hR ht hB hSl
  generalize S.getD (6 - q) 0 = r at *
  go_wp2_with fail
  go_ret
  exact ⟨r, rfl, HR.out, B1.out⟩
end Go.Proofs.YtacipjdaiglnjaaGreatDoor

/- Contracts of package quorum: New, Ack, Have, Last, Next, Commit, Probe. -/
namespace Go.Proofs.YtacipjdaiglnjaaGreatDoor
open Go.RowKit PQuo

theorem qnew_yes (w : World) (n me : Int) (m : Nat) (hm : PTeam.most m n = true) (hh : PTeam.has m me = true) :
    Calls Tryz.prog 160 #[.int .i64 n, .int .i64 m, .int .i64 me] w fun e w' => e = .returned (.pointer (some ⟨w.heap.size, 0, none⟩)) ∧ Qs w' w.heap.size n me m none7 none7 0 ∧ Qk n me m none7 none7 0 ∧ Below w.heap.size w w' := by
  obtain ⟨h3, h7, hlt, _⟩ := most_in hm
  have HM := Lib.hid hm
  have HH := Lib.hid hh
  clear hm h3 h7 hh
  go_enter Tryz.func160, Tryz.ntmps160
  go_wp2_with fail
  refine (tMost_c w m n (by omega) (by omega)).mono ?_
  rw [HM.out]
  rintro e w' ⟨rfl, rfl⟩
  go_wp2_with fail
  refine (tHas_c w m me hlt).mono ?_
  rw [HH.out]
  rintro e w' ⟨rfl, rfl⟩
  go_wp2_with fail
  go_ret
  exact ⟨rfl, Blk.new w _ _, ⟨HM.out, HH.out, ok_none m (by omega), ok_none m (Int.le_refl _), Int.le_refl _, by omega⟩, (Below.refl _ _).alloc (Nat.le_refl _) _⟩

section
variable (w : World) (g : Nat) (n me : Int) (m : Nat) (H P : List Int) (last : Int)
theorem qhave_in (h : Qs w g n me m H P last) (hk : Qk n me m H P last) (id : Int) (hid : PTeam.has m id = true) : Calls Tryz.prog 165 #[.pointer (some ⟨g, 0, none⟩), .int .i64 id] w fun e w' => e = .returned (.int .i64 (H.getD (pl id) 0)) ∧ w = w' := by
  obtain ⟨a, b, hk7, hpl⟩ := pl_in hk.n.2.2 hid
  generalize pl id = k at *
  subst hpl
  have c2 := Blk.cell h qcs_m
  have c3 := Blk.cell h (qcs_h hk.h.len hk7)
  have hlt := hk.n.2.2
  have HH := Lib.hid hid
  clear h hk hid a b
  generalize H.getD k 0 = x at *
  go_enter Tryz.func165, Tryz.ntmps165
  go_wp2_with fail
  refine (tHas_c w m _ hlt).mono ?_
  rw [HH.out]
  rintro e w' ⟨rfl, rfl⟩
  go_wp2_with fail
  go_ret
  exact ⟨rfl, rfl⟩
theorem qack_yes (h : Qs w g n me m H P last) (hk : Qk n me m H P last) (id x probe : Int) (hid : PTeam.has m id = true) (hx0 : 0 ≤ x) (hx6 : x ≤ 60) :
    Calls Tryz.prog 152 #[.pointer (some ⟨g, 0, none⟩), .int .i64 id, .int .i64 x, .int .i64 probe] w fun e w' => e = .returned (.bool true) ∧ Qs w' g n me m (upd H id x) (if probe ≤ last then upd P id probe else P) last ∧ Touch [g] w w' := by
  unfold upd
  obtain ⟨a, b, hk7, hpl⟩ := pl_in hk.n.2.2 hid
  generalize pl id = k at *
  subst hpl
  have c2 := Blk.cell h qcs_m
  have c3 := Blk.cell h (qcs_h hk.h.len hk7)
  have f3 := Blk.free h (3 + k)
  have hlt := hk.n.2.2
  have HH := Lib.hid hid
  have HS := Lib.hid h
  have HK := Lib.hid hk
  clear h hk hid a b
  obtain ⟨v, hv⟩ : ∃ v, H.getD k 0 = v := ⟨_, rfl⟩
  rw [hv] at c3 ⊢
  have HV := Lib.hid hv
  clear hv
  obtain ⟨u, hu⟩ : ∃ u, P.getD k 0 = u := ⟨_, rfl⟩
  rw [hu]
  have HU := Lib.hid hu
  clear hu
  go_enter Tryz.func152, Tryz.ntmps152
  go_wp2_with fail
  refine (tHas_c w m _ hlt).mono ?_
  rw [HH.out]
  rintro e w' ⟨rfl, rfl⟩
  go_wp2_with fail
  go_big_region
  have S1 := Lib.hid (show Qs (w.setCell ⟨g, 3 + k, none⟩ (.int .i64 (max v x))).drew g n me m (H.set k (max v x)) P last by
    have := Blk.set HS.out (3 + k) (.int .i64 (max v x))
    rw [qset_h HK.out.h.len hk7] at this
    exact this)
  have T1 := Lib.hid (show Touch [g] w (w.setCell ⟨g, 3 + k, none⟩ (.int .i64 (max v x))).drew from ((Touch.refl [g] w).cell (List.mem_singleton.2 rfl) _ _).drew)
  have hl : (H.set k (max v x)).length = 7 := by rw [List.length_set]; exact HK.out.h.len
  clear c2 c3 f3
  generalize (w.setCell ⟨g, 3 + k, none⟩ (.int .i64 (max v x))).drew = w1 at *
  have c2 := Blk.cell S1.out (qcs_last hl HK.out.p.len)
  have c3 := Blk.cell S1.out (qcs_p hl HK.out.p.len hk7)
  have f3 := Blk.free S1.out (10 + k)
  rw [HU.out] at c3
  have HL := Lib.hid hl
  clear hl
  by_cases hp : probe ≤ last
  · go_wp2_with fail
    go_big_region
    go_wp2_with fail
    go_ret
    refine ⟨rfl, ?_, (T1.out.cell (List.mem_singleton.2 rfl) _ _).drew⟩
    have := Blk.set S1.out (10 + k) (.int .i64 (max u probe))
    rw [qset_p HL.out HK.out.p.len hk7] at this
    exact this
  · go_wp2_with fail
    go_ret
    exact ⟨rfl, S1.out, T1.out⟩
theorem qnext_c (h : Qs w g n me m H P last) (hk : Qk n me m H P last) (hb : last < 1000000) :
    Calls Tryz.prog 112 #[.pointer (some ⟨g, 0, none⟩)] w fun e w' => e = .returned (.int .i64 (last + 1)) ∧ Qs w' g n me m H (P.set (pl me) (last + 1)) (last + 1) ∧ Touch [g] w w' := by
  have c17 := Blk.cell h (qcs_last hk.h.len hk.p.len)
  have f17 := Blk.free h 17
  have hl0 := hk.l0
  have hl1 := hk.l1
  have S1 := Lib.hid (show Qs (w.setCell ⟨g, 17, none⟩ (.int .i64 (last + 1))) g n me m H P (last + 1) by
    have := Blk.set h 17 (.int .i64 (last + 1))
    rw [qset_last hk.h.len hk.p.len] at this
    exact this)
  have T1 := Lib.hid (show Touch [g] w (w.setCell ⟨g, 17, none⟩ (.int .i64 (last + 1))) from (Touch.refl [g] w).cell (List.mem_singleton.2 rfl) _ _)
  obtain ⟨_, _, hlt⟩ := hk.n
  obtain ⟨_, _, hk7, hpl⟩ := pl_in hlt hk.me
  have K1 := Lib.hid (show Qk n me m H P (last + 1) from ⟨hk.most, hk.me, hk.h, ok_more hk.p (by omega), by omega, by omega⟩)
  have HU := Lib.hid (show upd H me 0 = H from upd_same hlt hk.h hk.me (hk.h.lo _ hk7))
  have HV := Lib.hid (show upd P me (last + 1) = P.set (pl me) (last + 1) by unfold upd; rw [Int.max_eq_right (show P.getD (pl me) 0 ≤ last + 1 by have := hk.p.hi _ hk7; omega)])
  have HS := Lib.hid h
  have HK := Lib.hid hk
  clear h hk hk7 hpl hlt
  go_enter Tryz.func112, Tryz.ntmps112
  go_wp2_with fail
  clear c17 f17
  generalize w.setCell ⟨g, 17, none⟩ (.int .i64 (last + 1)) = w1 at *
  have c1 := Blk.cell S1.out qcs_me
  have c17 := Blk.cell S1.out (qcs_last HK.out.h.len HK.out.p.len)
  go_region_with (go_at_call 152; refine (qack_yes _ g n me m H P (last + 1) (Qs.past S1.out ?_) K1.out me 0 (last + 1) ?_ (by omega) (by omega)).mono ?_; exact ⟨rfl, rfl, rfl, Nat.le_refl _, fun _ _ => rfl⟩; exact K1.out.me; rintro e w2 ⟨rfl, s2, t2⟩)
  all_goals
    rw [if_pos (Int.le_refl _), HU.out, HV.out] at s2
    have S2 := Lib.hid s2
    have T2 := Lib.hid (show Touch [g] w w2 from T1.out.trans ⟨t2.os, t2.tape, t2.output, t2.size, t2.block⟩)
    have HL := Lib.hid (show (P.set (pl me) (last + 1)).length = 7 by rw [List.length_set]; exact HK.out.p.len)
    have c5 := Blk.cell S2.out (qcs_last HK.out.h.len HL.out)
    clear s2 t2 c1 c17
    go_wp2_with fail
    go_ret
    exact ⟨rfl, S2.out, T2.out⟩

theorem range_h {w : World} {g : Nat} {n me : Int} {m : Nat} {H P : List Int} {last : Int} (h : Qs w g n me m H P last) (hl : H.length = 7) : w.rangeAt g 3 (is H) := fun j v hv => by
  have hj : j < 7 := by have := (List.getElem?_eq_some_iff.1 hv).1; rw [is_length] at this; omega
  rw [Blk.cell h (qcs_h hl hj), ← hv, is_get H (by omega)]
theorem range_p {w : World} {g : Nat} {n me : Int} {m : Nat} {H P : List Int} {last : Int} (h : Qs w g n me m H P last) (hl : H.length = 7) (pl : P.length = 7) : w.rangeAt g 10 (is P) := fun j v hv => by
  have hj : j < 7 := by have := (List.getElem?_eq_some_iff.1 hv).1; rw [is_length] at this; omega
  rw [Blk.cell h (qcs_p hl pl hj), ← hv, is_get P (by omega)]
theorem run_loadI7 {w : World} {dst : Option Tmp} {x : Operand} {ty : TypeId} {pos : String} {after : Array Edge} {guard : Option (Nat × Bool)} {ρ : Operand → Value} {b o : Nat} {l : List Int}
    (hr : w.rangeAt b o (is l)) (hx : ρ x = .pointer (some ⟨b, o, none⟩)) (hl : l.length = 7) :
    (execOp ρ { dst, op := .load 224 x, type := ty, pos, after, guard }).run Tryz.prog w = .ok (.value (.agg (is l).toArray)) w := by
  have := run_loadAt_mid (P := Tryz.prog) w b o 224 (is l) _ hr Tryz.underlying224 rfl (by rw [is_length, hl]; kernel_rfl)
  unfold execOp
  simp only [hx, Sem.run_bind, this, Result.andThen_ok, Sem.run_pure]
theorem run_loadL7 {w : World} {dst : Option Tmp} {x : Operand} {ty : TypeId} {pos : String} {after : Array Edge} {guard : Option (Nat × Bool)} {ρ : Operand → Value} {b o : Nat} {l : List Int}
    (hr : w.rangeAt b o (is l)) (hx : ρ x = .pointer (some ⟨b, o, none⟩)) (hl : l.length = 7) :
    (execOp ρ { dst, op := .load 170 x, type := ty, pos, after, guard }).run Tryz.prog w = .ok (.value (.agg (is l).toArray)) w := by
  have := run_loadAt_mid (P := Tryz.prog) w b o 170 (is l) _ hr Tryz.underlying170 rfl (by rw [is_length, hl]; kernel_rfl)
  unfold execOp
  simp only [hx, Sem.run_bind, this, Result.andThen_ok, Sem.run_pure]
theorem qcommit_c (h : Qs w g n me m H P last) (hk : Qk n me m H P last) :
    Calls Tryz.prog 153 #[.pointer (some ⟨g, 0, none⟩)] w fun e w' => ∃ r, e = .returned (.int .i64 r) ∧ IsR H n r ∧ Below w.heap.size w w' := by
  have HS := Lib.hid h
  have HK := Lib.hid hk
  clear h hk
  go_enter Tryz.func153, Tryz.ntmps153
  go_wp2_with fail
-- REGION (*curfew/quorum.Quorum).Commit 3 qcommit3 2
  refine Hb.begin ?_
  refine Hb.take (v := .pointer (some ⟨g, 0, none⟩)) 0 5 rfl ?_ (fun _ _ => rfl)
  refine Hb.take (v := .pointer (some ⟨g, 0, none⟩)) 1 6 rfl ?_ (fun w' hw' => by go_simp; first | done | rfl | (simp; omega))
  refine Hb.take (v := .pointer (some ⟨g, 3, none⟩)) 2 7 rfl ?_ (fun w' hw' => by go_simp; first | done | rfl | (simp; omega))
  refine Hb.take (v := .agg (is H).toArray) 3 8 rfl ?_ (fun w' hw' => by exact run_loadI7 (range_h ((show Qs w.drew g n me m H P last from HS.out).past hw') HK.out.h.len) rfl HK.out.h.len)
  refine Hb.take (v := .pointer (some ⟨g, 0, none⟩)) 4 9 rfl ?_ (fun _ _ => rfl)
  refine Hb.take (v := .pointer (some ⟨g, 0, none⟩)) 5 10 rfl ?_ (fun w' hw' => by go_simp; first | done | rfl | (simp; omega))
  refine Hb.take (v := .pointer (some ⟨g, 0, none⟩)) 6 11 rfl ?_ (fun w' hw' => by go_simp; first | done | rfl | (simp; omega))
  refine Hb.take (v := .int .i64 n) 7 12 rfl ?_ (fun w' hw' => by have cc := Blk.cell ((show Qs w.drew g n me m H P last from HS.out).past hw') qcs_n; go_simp)
  refine Hb.call (f := 194) (args := #[.agg (is H).toArray, .int .i64 n]) 8 13 rfl ?_ (run_callf Tryz.func194 (by kernel_rfl) (by kernel_rfl) (by simp only [List.map_toArray, List.map_cons, List.map_nil]; rfl))
  refine (reachI_c _ H n HK.out.h.len HK.out.n.1 HK.out.n.2.1).mono ?_
  rintro x w2 ⟨r, rfl, hr, b2⟩
  have HR := Lib.hid hr
  have B2 := Lib.hid ((Below.refl w.heap.size w).drew.trans b2)
  refine Hb.back b2 (Nat.le_refl _) ?_
  refine Hb.take (v := .int .i64 r) 9 2 rfl ?_ (fun _ _ => rfl)
  refine Hb.done ?_
-- END
  go_wp2_with fail
  go_ret
  exact ⟨r, rfl, HR.out, B2.out⟩
theorem qprobe_c (h : Qs w g n me m H P last) (hk : Qk n me m H P last) :
    Calls Tryz.prog 213 #[.pointer (some ⟨g, 0, none⟩)] w fun e w' => ∃ r, e = .returned (.int .i64 r) ∧ IsR P n r ∧ Below w.heap.size w w' := by
  have HS := Lib.hid h
  have HK := Lib.hid hk
  clear h hk
  go_enter Tryz.func213, Tryz.ntmps213
  go_wp2_with fail
-- REGION (*curfew/quorum.Quorum).Probe 3 qprobe3 2
  refine Hb.begin ?_
  refine Hb.take (v := .pointer (some ⟨g, 0, none⟩)) 0 5 rfl ?_ (fun _ _ => rfl)
  refine Hb.take (v := .pointer (some ⟨g, 0, none⟩)) 1 6 rfl ?_ (fun w' hw' => by go_simp; first | done | rfl | (simp; omega))
  refine Hb.take (v := .pointer (some ⟨g, 10, none⟩)) 2 7 rfl ?_ (fun w' hw' => by go_simp; first | done | rfl | (simp; omega))
  refine Hb.take (v := .agg (is P).toArray) 3 8 rfl ?_ (fun w' hw' => by exact run_loadL7 (range_p ((show Qs w.drew g n me m H P last from HS.out).past hw') HK.out.h.len HK.out.p.len) rfl HK.out.p.len)
  refine Hb.take (v := .pointer (some ⟨g, 0, none⟩)) 4 9 rfl ?_ (fun _ _ => rfl)
  refine Hb.take (v := .pointer (some ⟨g, 0, none⟩)) 5 10 rfl ?_ (fun w' hw' => by go_simp; first | done | rfl | (simp; omega))
  refine Hb.take (v := .pointer (some ⟨g, 0, none⟩)) 6 11 rfl ?_ (fun w' hw' => by go_simp; first | done | rfl | (simp; omega))
  refine Hb.take (v := .int .i64 n) 7 12 rfl ?_ (fun w' hw' => by have cc := Blk.cell ((show Qs w.drew g n me m H P last from HS.out).past hw') qcs_n; go_simp)
  refine Hb.call (f := 232) (args := #[.agg (is P).toArray, .int .i64 n]) 8 13 rfl ?_ (run_callf Tryz.func232 (by kernel_rfl) (by kernel_rfl) (by simp only [List.map_toArray, List.map_cons, List.map_nil]; rfl))
  refine (reachL_c _ P n HK.out.p.len HK.out.n.1 HK.out.n.2.1).mono ?_
  rintro x w2 ⟨r, rfl, hr, b2⟩
  have HR := Lib.hid hr
  have B2 := Lib.hid ((Below.refl w.heap.size w).drew.trans b2)
  refine Hb.back b2 (Nat.le_refl _) ?_
  refine Hb.take (v := .int .i64 r) 9 2 rfl ?_ (fun _ _ => rfl)
  refine Hb.done ?_
-- END
  go_wp2_with fail
  go_ret
  exact ⟨r, rfl, HR.out, B2.out⟩
end
end Go.Proofs.YtacipjdaiglnjaaGreatDoor

