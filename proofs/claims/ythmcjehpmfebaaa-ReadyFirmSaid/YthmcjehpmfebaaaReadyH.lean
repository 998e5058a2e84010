/- Contract of the queue's Go. -/
import Derived.Test.YthmcjehpmfebaaaReadyG
namespace Go.Proofs.Ythmcjehpmfebaaa
open Go.RowKit PReady

/-- How long the slice is that a cell holds. -/
def slLen : Option Value → Nat
  | some (.slice _ k _) => k
  | _ => 0
/-- The loop's state: X is what was told in this call. -/
structure GS (w wr : World) (g : Nat) (F : List Nat) (T : List Tl) (l : List Ent) (commit now : Int) (A : Option Addr) (c n : Nat) (F' : List Nat) (X : List Tl) : Prop where
  eq : go commit now T l = X ++ go commit now (T ++ X) l
  qu : Qu wr g F' (T ++ X)
  sub : ∀ k ∈ F', k ∈ F ∨ w.heap.size ≤ k
  touch : Touch F w wr
  rd : Rd wr w.heap.size A c 7 n (els l)
theorem GS.xlen {w wr : World} {g : Nat} {F : List Nat} {T : List Tl} {l : List Ent} {commit now : Int} {A : Option Addr} {c n : Nat} {F' : List Nat} {X : List Tl} (h : GS w wr g F T l commit now A c n F' X) : X.length ≤ n := by
  have h1 := go_len commit now T l
  have h2 := congrArg List.length h.eq
  rw [List.length_append] at h2
  have := h.rd.elen
  omega
/-- A call that made memory alone. -/
theorem GS.past {w wr w' : World} {g : Nat} {F : List Nat} {T : List Tl} {l : List Ent} {commit now : Int} {A : Option Addr} {c n : Nat} {F' : List Nat} {X : List Tl} (h : GS w wr g F T l commit now A c n F' X) (hb : Below wr.heap.size wr w') : GS w w' g F T l commit now A c n F' X :=
  ⟨h.eq, h.qu.past hb, h.sub, h.touch.trans (.of_below hb), h.rd.past hb⟩

set_option maxHeartbeats 8000000 in
set_option maxRecDepth 100000 in
theorem Go_c (w : World) (g : Nat) (F : List Nat) (T : List Tl) (h : Qu w g F T) (A : Option Addr) (c n : Nat) (l : List Ent) (R : Rd w w.heap.size A c 7 n (els l)) (hd : 0 < n * 7 → ∀ k ∈ F, bk A ≠ some k)
    (hfit : ∀ e ∈ l, PEnt.Fit e) (hap : Apart l) (hn : n ≤ 60) (hT : T.length + n ≤ 1000000) (commit now : Int) :
    Calls Try.prog 17 #[.pointer (some ⟨g, 0, none⟩), .slice A n c, .int .i64 commit, .int .i64 now] w fun x w' => ∃ A' c', x = .returned (.slice A' (go commit now T l).length c') ∧
      w'.ownsRow w.heap.size 44 8 (.slice A' (go commit now T l).length c') (go commit now T l).length (tls (go commit now T l)) ∧ QW w w' g F (T ++ go commit now T l) := by
  have hle := R.le
  have hcut : ∀ W, (Instr.sliceAt 22 (.slice A n c) none (some (.int .i64 n)) none).run Try.prog W = .ok (.slice A n c) W := fun W => run_short 22 39 Try.underlying22 ent_info A n c n hle
  have HL := Lib.hid R.elen
  have HFIT := Lib.hid hfit
  have HAP := Lib.hid hap
  have HTN := Lib.hid hT
  have HD := Lib.hid hd
  obtain ⟨A0, c0, q0, d0, -, -, -, -⟩ := h.open
  have ST := Lib.hid (show GS w w g F T l commit now A c n F [] from ⟨by simp, by rw [List.append_nil]; exact h, fun k hk => .inl hk, Touch.refl _ _, R⟩)
  have HLE := Lib.hid (show Calls _ _ _ w _ from by simpa using least_c w g F T h A c n l R hfit commit now)
  clear R hle hfit hap hT hd h
  go_enter Try.func17, Try.ntmps17
  go_wp2_with ((with_reducible show wpList _ _ _ ((⟨some 17, Op.slice _ _ _ _ _, _, _, _, _⟩ : Oper) :: _) _ _); (refine wpList_plain rfl fun K hK => ?_; unfold Oper.wp; rw [run_sliceOp (hcut _), Oper.upon_value]; refine hK _ _ ?_))
  clear d0
  refine HLE.out.mono ?_
  rintro x w1 ⟨rfl, b1⟩
  have S1 := Lib.hid (show GS w w1 g F T l commit now A c n F [] from ST.out.past b1)
  clear ST HLE b1
  go_wp2_with fail
  go_loopw [10] (fun s10 wr => ∃ (F' : List Nat) (X : List Tl), s10 = .int .i64 (spot (least commit now (T ++ X) 0 Fl.none l)) ∧ Hid (GS w wr g F T l commit now A c n F' X)) (fun _ wr => T.length + n - slLen (wr.cell? ⟨g, 0, none⟩))
  case atStart => exact ⟨F, [], by rw [List.append_nil], S1⟩
  case round =>
    obtain ⟨F', X, rfl, HS⟩ := hrel
    clear S1
    obtain ⟨A1, c1, q1, d1, -, RT, -, -⟩ := HS.out.qu.open
    have d1' := Lib.hid d1
    cases hls : least commit now (T ++ X) 0 Fl.none l
    · have HG := Lib.hid (go_none HS.out.eq hls)
      have j0 : spot none = 0 := rfl
      rw [j0]
      rw [List.length_append] at RT d1
      obtain ⟨A3, c3, hrun3, R3⟩ := cut_any (P := Try.prog) (w := wr) 30 44 Try.underlying30 told_info RT (some (.int .i64 T.length)) none T.length (T.length + X.length) T.length 0 (Or.inr ⟨rfl, rfl⟩) (Or.inl ⟨rfl, rfl⟩) (by omega) (Nat.le_refl _)
      have e3 : ((tls (T ++ X)).drop (T.length * 8)).take ((T.length + X.length - T.length) * 8) = tls X := by
        rw [tls_drop, List.drop_left, tls_take]; congr 1; exact List.take_of_length_le (by simp)
      have e4 : T.length + X.length - T.length = X.length := by omega
      rw [e3, e4] at R3
      rw [e4] at hrun3
      have R3' := Lib.hid R3
      clear hls j0 RT R3 e3 e4 d1'
      go_wp2_with ((with_reducible show wpList _ _ _ ((⟨some 48, Op.slice _ _ _ _ _, _, _, _, _⟩ : Oper) :: _) _ _); (refine wpList_plain rfl fun K hK => ?_; unfold Oper.wp; rw [run_sliceOp (hrun3 _), Oper.upon_value]; refine hK _ _ ?_))
      clear d1
      refine (cloneT_c wr _ A3 c3 X.length X R3'.out (by have := HS.out.xlen; have := HTN.out; omega)).mono ?_
      rintro x w2 ⟨A', c', rfl, ho, hb⟩
      go_wp2_with fail
      go_ret
      refine ⟨A', c', by rw [HG.out]; rfl, ?_, ?_⟩
      · rw [HG.out]; exact own_base ho HS.out.touch.size
      · rw [HG.out]
        exact QW.ahead ⟨⟨F', HS.out.qu, HS.out.sub⟩, HS.out.touch⟩ hb
    · rename_i t
      obtain ⟨p, e⟩ := t
      obtain ⟨k, hk, hp, hh⟩ := least_mem hls
      have hp' : p = (k : Int) + 1 := by simpa using hp
      subst hp'
      have HG := Lib.hid (go_some HAP.out HS.out.eq hls)
      have hkn : k < n := by have := (List.getElem?_eq_some_iff.1 hk).1; have := HL.out; omega
      have HX := Lib.hid (show X.length < n by
        have h1 := congrArg List.length HG.out
        have h2 := go_len commit now T l
        simp only [List.length_append, List.length_cons, List.length_nil] at h1
        have := HL.out
        omega)
      have HFe := Lib.hid (HFIT.out e (List.mem_of_getElem? hk))
      have j0 : spot (some ((k : Int) + 1, e)) = (k : Int) + 1 := rfl
      rw [j0]
      have j1 : (0 : Int) < (k : Int) + 1 := by omega
      have j2 : (k : Int) + 1 - 1 = (k : Int) := by omega
      obtain ⟨b, o, y, rfl, hb, he, -, y0, y1, y2, y3, y4, y5, y6⟩ := HS.out.rd.ent hkn
      obtain rfl : e = y := by have := hk.symm.trans he; exact Option.some.inj this
      clear hls j0 RT hp hk hh he d1
      go_wp2_with fail
      clear y0 y1 y2 y3 y4 y5 y6
      refine (show Calls Try.prog _ #[_, _, .agg #[.int .i64 e.fr, .int .i64 e.boot, .int .i64 e.seq, .int .i64 e.ord, .int .i64 e.lev, .int .i64 e.stamp, .string e.data]] wr _ from tell_c wr g F' (T ++ X) HS.out.qu ((k : Int) + 1) e HFe.out (by have := HX.out; have := HTN.out; simp only [List.length_append]; omega)).mono ?_
      rintro x w2 ⟨rfl, wq⟩
      obtain ⟨F2, q2, s2⟩ := wq.ex
      have S2 := Lib.hid (show GS w w2 g F T l commit now (some ⟨b, o, none⟩) c n F2 (X ++ [((k : Int) + 1, e)]) from by
        refine ⟨HG.out, by rw [← List.append_assoc]; exact q2, fun i hi => ?_, ?_, ?_⟩
        · rcases s2 i hi with q | q
          · exact HS.out.sub i q
          · exact .inr (Nat.le_trans HS.out.touch.size q)
        · exact HS.out.touch.trans4 wq.touch HS.out.sub
        · refine HS.out.rd.touch wq.touch (fun hz i hi => ?_)
          rcases HS.out.sub i hi with q | q
          · exact HD.out hz i q
          · intro hq
            have hq' : b = i := by simpa [bk] using hq
            omega)
      clear wq q2 s2
      go_wp2_with fail
      refine (least_c w2 g F2 (T ++ (X ++ [((k : Int) + 1, e)])) S2.out.qu (some ⟨b, o, none⟩) c n l S2.out.rd.tight HFIT.out commit now).mono ?_
      rintro x w3 ⟨rfl, b3⟩
      have S3 := Lib.hid (S2.out.past b3)
      have L3 := Lib.hid S3.out.qu.open
      have E1 := Lib.hid (show slLen (wr.cell? ⟨g, 0, none⟩) = (T ++ X).length by rw [d1'.out]; rfl)
      clear b3 S2
      go_wp2_with fail
      go_roundw
      case rel => exact ⟨F2, X ++ [((k : Int) + 1, e)], rfl, S3⟩
      case measure =>
        obtain ⟨A5, c5, q5, d5, -⟩ := L3.out
        rw [E1.out, d5]
        have := HX.out
        simp only [slLen, List.length_append, List.length_cons, List.length_nil]
        omega
end Go.Proofs.Ythmcjehpmfebaaa
