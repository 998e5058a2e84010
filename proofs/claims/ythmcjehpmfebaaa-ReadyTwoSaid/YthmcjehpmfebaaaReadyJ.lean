/- Contract of the document's queue's Go. -/
import Derived.Test.YthmcjehpmfebaaaReadyI
import Derived.Test.YthmcjehpmfebaaaReadyC
import Derived.Deep.CutRange
import Derived.Deep.LoopGhost
namespace Go.Proofs.Ythmcjehpmfebaaa
open Go.RowKit PReady

/-- The loop's state: X is what was told in this call. -/
structure PS (w wr : World) (g : Nat) (F : List Nat) (T : List Tl) (l : List Ent) (commit now : Int) (A : Option Addr) (c n : Nat) (i : Nat) (u : Fl) (X : List Tl) (F' : List Nat) (A1 : Option Addr) (c1 : Nat) : Prop where
  eq : go commit now T l = X ++ pass commit now i u (T ++ X) (l.drop i)
  xl : X.length ≤ i
  rq : Rq wr g F' (T ++ X)
  sub : ∀ k ∈ F', k ∈ F ∨ w.heap.size ≤ k
  touch : Touch F w wr
  rd : Rd wr w.heap.size A c 7 n (els l)
  out : Ow wr w.heap.size 44 8 A1 X.length c1 (tls X)
  sep : ∀ k, bk A1 = some k → k ∉ F'
  all : Blk wr w.heap.size 63 [.bool !u.so, .bool !u.tot, .bool !u.tim]
section
variable {w wr w' : World} {g : Nat} {F : List Nat} {T : List Tl} {l : List Ent} {commit now : Int} {A : Option Addr} {c n i : Nat} {u : Fl} {X : List Tl} {F' : List Nat} {A1 : Option Addr} {c1 : Nat}
theorem PS.past (h : PS w wr g F T l commit now A c n i u X F' A1 c1) (hb : Below wr.heap.size wr w') : PS w w' g F T l commit now A c n i u X F' A1 c1 :=
  ⟨h.eq, h.xl, h.rq.past hb, h.sub, h.touch.trans (.of_below hb), h.rd.past hb, h.out.past hb, h.sep, h.all.past hb⟩
theorem PS.skip (h : PS w wr g F T l commit now A c n i u X F' A1 c1) {e : Ent} (he : l[i]? = some e) (hh : has (T ++ X) e = true) : PS w wr g F T l commit now A c n (i + 1) u X F' A1 c1 :=
  ⟨by rw [h.eq, pass_step he, if_pos hh], Nat.le_succ_of_le h.xl, h.rq, h.sub, h.touch, h.rd, h.out, h.sep, h.all⟩
end
theorem held_iff {s now : Int} (h1 : 0 ≤ s) (h2 : s ≤ 1099511627776) : held s now = (decide (3 ≤ now) && decide (s ≤ now - 3)) := by
  unfold held
  rw [Bool.eq_iff_iff]
  simp only [Bool.and_eq_true, decide_eq_true_eq]
  omega

set_option maxHeartbeats 16000000 in
set_option maxRecDepth 100000 in
theorem rGo_c (w : World) (g : Nat) (F : List Nat) (T : List Tl) (h : Rq w g F T) (A : Option Addr) (c n : Nat) (l : List Ent) (R : Rd w w.heap.size A c 7 n (els l)) (hd : 0 < n * 7 → ∀ k ∈ F, bk A ≠ some k)
    (hmay : ∀ e ∈ l, PEnt.may e = true) (hn : n ≤ 60) (hT : T.length + n ≤ 999999) (commit now : Int) (hnow : -9223372036854775808 ≤ now ∧ now ≤ 9223372036854775807) :
    Calls Try.prog 18 #[.pointer (some ⟨g, 0, none⟩), .slice A n c, .int .i64 commit, .int .i64 now] w fun x w' => ∃ A' c', x = .returned (.slice A' (go commit now T l).length c') ∧
      Ow w' w.heap.size 44 8 A' (go commit now T l).length c' (tls (go commit now T l)) ∧ RW w w' g F (T ++ go commit now T l) := by
  have HL := Lib.hid R.elen
  have HM := Lib.hid hmay
  have HTN := Lib.hid hT
  have HD := Lib.hid hd
  have HF := Lib.hid (show w.heap.size ∉ F from fun hm => Nat.lt_irrefl _ (h.hi _ hm))
  have b0 := (Below.refl w.heap.size w).alloc (Nat.le_refl _) (.cells #[.bool true, .bool true, .bool true] 63)
  have ST := Lib.hid (show PS w (w.alloc (.cells #[.bool true, .bool true, .bool true] 63)) g F T l commit now A c n 0 Fl.none [] F none 0 from
    ⟨by simp [go], Nat.le_refl _, by rw [List.append_nil]; exact h.alloc _, fun k hk => .inl hk, .of_below b0, R.alloc _, Ow.nil _ _ _ _, fun k hk => (by cases hk), Blk.new w _ _⟩)
  obtain ⟨hnow1, hnow2⟩ := hnow
  clear h R hd hmay hT b0
  go_enter Try.func18, Try.ntmps18
  go_wp2_with fail
  go_loopg [9, 11] n (fun k s9 s11 wr => ∃ (i : Nat) (u : Fl) (X : List Tl) (F' : List Nat) (A1 : Option Addr) (c1 : Nat), k = n - i ∧ i ≤ n ∧ s9 = .slice A1 X.length c1 ∧ s11 = .int .i64 i ∧ Hid (PS w wr g F T l commit now A c n i u X F' A1 c1))
  case atStart => exact ⟨0, Fl.none, [], F, none, 0, by omega, by omega, rfl, rfl, ST⟩
  case round =>
    obtain ⟨i, u, X, F', A1, c1, rfl, hi, rfl, rfl, HS⟩ := hrel
    clear ST
    by_cases hlt : i < n
    · have ji : (i : Int) < 60 := by omega
      obtain ⟨b, o, e, rfl, hb, he, hmem, d0, d1, d2, d3, d4, d5, d6⟩ := HS.out.rd.ent hlt
      obtain ⟨fr, boot, seq, ord, lev, stamp, data⟩ := e
      have HE := Lib.hid he
      have hM := (PEnt.may_iff _).1 (HM.out _ hmem)
      have ho := hM.2.2.2.1
      have hv := hM.2.2.2.2.1
      have hs := hM.2.2.2.2.2.1
      clear hb he hmem hM
      have S1 := Lib.hid (HS.out.past ((Below.refl wr.heap.size wr).alloc (Nat.le_refl _) (.cells #[.int .i64 fr, .int .i64 boot, .int .i64 seq, .int .i64 ord, .int .i64 lev, .int .i64 stamp, .string data] 39)))
      have KE := Lib.hid (Blk.newEnt wr 39 ⟨fr, boot, seq, ord, lev, stamp, data⟩)
      clear HS
      go_wp2_with fail
      clear d0 d1 d2 d3 d4 d5 d6
      generalize (wr.alloc (.cells #[.int .i64 fr, .int .i64 boot, .int .i64 seq, .int .i64 ord, .int .i64 lev, .int .i64 stamp, .string data] 39)) = w1 at *
      refine (show Calls Try.prog _ #[_, .agg #[.int .i64 fr, .int .i64 boot, .int .i64 seq, .int .i64 ord, .int .i64 lev, .int .i64 stamp, .string data]] w1 _ from rHasQ_c w1 g F' (T ++ X) S1.out.rq ⟨fr, boot, seq, ord, lev, stamp, data⟩).mono ?_
      cases hh : has (T ++ X) ⟨fr, boot, seq, ord, lev, stamp, data⟩
      case true =>
        have HH := Lib.hid hh
        clear hh
        rintro x w2 ⟨rfl, b2⟩
        have S2 := Lib.hid (S1.out.past b2)
        have K2 := Lib.hid (KE.out.past b2)
        clear b2 S1 KE
        obtain ⟨d0, d1, d2, d3, d4, d5, d6⟩ := K2.out.ent
        go_wp2_with fail
        clear d0 d1 d2 d3 d4 d5 d6
        refine (show Calls Try.prog _ #[_, .agg #[.int .i64 fr, .int .i64 boot, .int .i64 seq, .int .i64 ord, .int .i64 lev, .int .i64 stamp, .string data]] w2 _ from rHasQ_c w2 g F' (T ++ X) S2.out.rq ⟨fr, boot, seq, ord, lev, stamp, data⟩).mono ?_
        rw [HH.out]
        rintro x w3 ⟨rfl, b3⟩
        have S3 := Lib.hid ((S2.out.past b3).skip HE.out HH.out)
        clear b3 S2 K2
        go_wp2_with fail
        go_roundg (n - (i + 1))
        case measure => omega
        case rel => exact ⟨i + 1, u, X, F', A1, c1, rfl, by omega, rfl, by go_num, S3⟩
      case false =>
        have HH := Lib.hid hh
        clear hh
        rintro x w2 ⟨rfl, b2⟩
        have S2 := Lib.hid (S1.out.past b2)
        have K2 := Lib.hid (KE.out.past b2)
        clear b2 S1 KE
        have j4 := K2.out.cell (i := 4) rfl
        have j3 := K2.out.cell (i := 3) rfl
        have j5 := K2.out.cell (i := 5) rfl
        have c0 := S2.out.all.cell (i := 0) rfl
        have c1' := S2.out.all.cell (i := 1) rfl
        have c2 := S2.out.all.cell (i := 2) rfl
        go_upto_region 8 with fail
        go_cut [13] from 36 to 123 (fun s13 wx => s13 = .bool (level u ((i : Int) + 1) commit lev) ∧ wx = w2)
        case first =>
          rcases (by omega : lev = 0 ∨ lev ≠ 0 ∧ ¬ (i : Int) < commit ∨ lev = 1 ∧ (i : Int) < commit ∨ lev = 2 ∧ (i : Int) < commit) with k0 | ⟨k0, k1⟩ | ⟨k0, k1⟩ | ⟨k0, k1⟩
          · subst k0
            go_wp2_with fail
            go_meet
            case rel => exact ⟨by simp [level], rfl⟩
          · have e0 : (lev == 0) = false := by simpa using k0
            have HR := Lib.hid (show level u ((i : Int) + 1) commit lev = false by simp [level, k0]; omega)
            go_wp2_with fail
            go_meet
            case rel => exact ⟨by rw [HR.out], rfl⟩
          · subst k0
            have HR := Lib.hid (show level u ((i : Int) + 1) commit 1 = true by simp [level]; omega)
            go_wp2_with fail
            go_meet
            case rel => exact ⟨by rw [HR.out], rfl⟩
          · subst k0
            have HR := Lib.hid (show level u ((i : Int) + 1) commit 2 = !u.so by simp [level]; omega)
            go_wp2_with fail
            go_meet
            case rel => exact ⟨by rw [HR.out], rfl⟩
        case rest =>
          obtain ⟨rfl, rfl⟩ := hcut
          go_upto_region 9 with fail
          go_cut [14] from 57 to 123 (fun s14 wx => s14 = .bool (order u now ord stamp) ∧ wx = wc)
          case first =>
            rcases (by omega : ord = 0 ∨ ord = 1 ∨ ord = 2) with k0 | k0 | k0
            · subst k0
              go_wp2_with fail
              go_meet
              case rel => exact ⟨by simp [order], rfl⟩
            · subst k0
              cases ht : u.tot
              · rw [ht] at c1'
                go_wp2_with fail
                go_meet
                case rel => exact ⟨by simp [order, ht], rfl⟩
              · rw [ht] at c1'
                go_wp2_with fail
                go_meet
                case rel => exact ⟨by simp [order, ht], rfl⟩
            · subst k0
              have HQ := Lib.hid (held_iff (now := now) hs.1 hs.2)
              cases ht : u.tim
              · rw [ht] at c2
                by_cases k1 : 3 ≤ now
                · have k1' : now ≥ 3 := k1
                  by_cases k2 : stamp ≤ now - 3
                  · have HR := Lib.hid (show order u now 2 stamp = true by simp [order, ht, HQ.out, k1, k2])
                    have k2' : now - 3 ≥ stamp := k2
                    go_wp2_with fail
                    go_meet
                    case rel => exact ⟨by rw [HR.out], rfl⟩
                  · have HR := Lib.hid (show order u now 2 stamp = false by simp [order, HQ.out, k2])
                    have k2' : ¬ now - 3 ≥ stamp := k2
                    go_wp2_with fail
                    go_meet
                    case rel => exact ⟨by rw [HR.out], rfl⟩
                · have HR := Lib.hid (show order u now 2 stamp = false by simp [order, HQ.out, k1])
                  have k1' : ¬ now ≥ 3 := k1
                  go_wp2_with fail
                  go_meet
                  case rel => exact ⟨by rw [HR.out], rfl⟩
              · rw [ht] at c2
                have HR := Lib.hid (show order u now 2 stamp = false by simp [order, ht])
                go_wp2_with fail
                go_meet
                case rel => exact ⟨by rw [HR.out], rfl⟩
          case rest =>
            obtain ⟨rfl, rfl⟩ := hcut
            have HLT := Lib.hid (show lets u ((i : Int) + 1) commit now ⟨fr, boot, seq, ord, lev, stamp, data⟩ = (level u ((i : Int) + 1) commit lev && order u now ord stamp) from rfl)
            obtain ⟨lv, hlv⟩ : ∃ q, level u ((i : Int) + 1) commit lev = q := ⟨_, rfl⟩
            obtain ⟨od, hod⟩ : ∃ q, order u now ord stamp = q := ⟨_, rfl⟩
            rw [hlv, hod] at HLT
            rw [hlv, hod]
            clear hlv hod j4 j5
            go_upto_region 10 with fail
            go_cut [92] from 89 to 123 (fun s92 wx => s92 = .bool (lv && od) ∧ wx = wc)
            case first =>
              cases lv
              · go_wp2_with fail
                go_meet
                case rel => exact ⟨rfl, rfl⟩
              · go_wp2_with fail
                go_meet
                case rel => exact ⟨by simp, rfl⟩
            case rest =>
              obtain ⟨rfl, rfl⟩ := hcut
              obtain ⟨q, hq⟩ : ∃ q, (lv && od) = q := ⟨_, rfl⟩
              rw [hq] at HLT
              rw [hq]
              clear hq
              cases q
              case false =>
                clear c0 c1' c2 j3
                obtain ⟨d0, d1, d2, d3, d4, d5, d6⟩ := K2.out.ent
                go_wp2_with fail
                clear d0 d1 d2 d3 d4 d5 d6
                refine (show Calls Try.prog _ #[_, .agg #[.int .i64 fr, .int .i64 boot, .int .i64 seq, .int .i64 ord, .int .i64 lev, .int .i64 stamp, .string data]] wc _ from rHasQ_c wc g F' (T ++ X) S2.out.rq ⟨fr, boot, seq, ord, lev, stamp, data⟩).mono ?_
                rw [HH.out]
                rintro x w3 ⟨rfl, b3⟩
                have S3 := Lib.hid (S2.out.past b3)
                have K3 := Lib.hid (K2.out.past b3)
                clear b3 S2 K2
                have d3 := K3.out.cell (i := 3) rfl
                have c0 := S3.out.all.cell (i := 0) rfl
                have c1' := S3.out.all.cell (i := 1) rfl
                have c2 := S3.out.all.cell (i := 2) rfl
                have f0 := S3.out.all.free 0
                have f1 := S3.out.all.free 1
                have f2 := S3.out.all.free 2
                have NF := Lib.hid (S3.out.rq.not S3.out.all (by decide) (by decide))
                have NB : wr.heap.size ≠ w.heap.size := K3.out.ne S3.out.all (by decide)
                clear K3
                rcases (by omega : ord = 1 ∨ ord = 2 ∨ ord = 0) with k0 | k0 | k0
                · as_aux_lemma =>
                    have GR := Lib.hid (show w3.grownBy ((w3.setCell ⟨w.heap.size, 0, none⟩ (.bool false)).setCell ⟨w.heap.size, 1, none⟩ (.bool false)) (some w.heap.size) from ((grown_set _ _ _ _).trans (grown_set _ _ _ _)))
                    have BK := Lib.hid (show Blk ((w3.setCell ⟨w.heap.size, 0, none⟩ (.bool false)).setCell ⟨w.heap.size, 1, none⟩ (.bool false)) w.heap.size 63 [.bool !(u.add ord).so, .bool !(u.add ord).tot, .bool !(u.add ord).tim] from by
                      have := ((S3.out.all.set 0 (.bool false)).set 1 (.bool false))
                      simpa [Fl.add, k0] using this)
                    have S4 := Lib.hid (show PS w ((w3.setCell ⟨w.heap.size, 0, none⟩ (.bool false)).setCell ⟨w.heap.size, 1, none⟩ (.bool false)) g F T l commit now (some ⟨b, o, none⟩) c n (i + 1) (u.add ord) X F' A1 c1 from
                      ⟨by rw [S3.out.eq, pass_step HE.out, if_neg (by rw [HH.out]; simp), if_neg (by rw [HLT.out]; simp)], Nat.le_succ_of_le S3.out.xl, S3.out.rq.touch (.of_grown GR.out) (fun s hs => by rw [List.mem_singleton.1 hs]; exact NF.out), S3.out.sub,
                        S3.out.touch.trans4 (.of_grown GR.out) (fun s hs => by rw [List.mem_singleton.1 hs]; exact .inr (Nat.le_refl _)), S3.out.rd.below ((Below.refl w.heap.size w3).grown GR.out S3.out.touch.size (fun k hk => by cases hk; exact Nat.le_refl _)),
                        S3.out.out.touch (.of_grown GR.out) (fun s hs => by rw [List.mem_singleton.1 hs]; exact S3.out.out.ne S3.out.all (by decide)), S3.out.sep, BK.out⟩)
                    clear GR BK
                    go_wp2_with fail
                    go_roundg (n - (i + 1))
                    case measure => omega
                    case rel => exact ⟨i + 1, u.add ord, X, F', A1, c1, rfl, by omega, rfl, by go_num, S4⟩
                · as_aux_lemma =>
                    have GR := Lib.hid (show w3.grownBy ((w3.setCell ⟨w.heap.size, 0, none⟩ (.bool false)).setCell ⟨w.heap.size, 2, none⟩ (.bool false)) (some w.heap.size) from ((grown_set _ _ _ _).trans (grown_set _ _ _ _)))
                    have BK := Lib.hid (show Blk ((w3.setCell ⟨w.heap.size, 0, none⟩ (.bool false)).setCell ⟨w.heap.size, 2, none⟩ (.bool false)) w.heap.size 63 [.bool !(u.add ord).so, .bool !(u.add ord).tot, .bool !(u.add ord).tim] from by
                      have := ((S3.out.all.set 0 (.bool false)).set 2 (.bool false))
                      simpa [Fl.add, k0] using this)
                    have S4 := Lib.hid (show PS w ((w3.setCell ⟨w.heap.size, 0, none⟩ (.bool false)).setCell ⟨w.heap.size, 2, none⟩ (.bool false)) g F T l commit now (some ⟨b, o, none⟩) c n (i + 1) (u.add ord) X F' A1 c1 from
                      ⟨by rw [S3.out.eq, pass_step HE.out, if_neg (by rw [HH.out]; simp), if_neg (by rw [HLT.out]; simp)], Nat.le_succ_of_le S3.out.xl, S3.out.rq.touch (.of_grown GR.out) (fun s hs => by rw [List.mem_singleton.1 hs]; exact NF.out), S3.out.sub,
                        S3.out.touch.trans4 (.of_grown GR.out) (fun s hs => by rw [List.mem_singleton.1 hs]; exact .inr (Nat.le_refl _)), S3.out.rd.below ((Below.refl w.heap.size w3).grown GR.out S3.out.touch.size (fun k hk => by cases hk; exact Nat.le_refl _)),
                        S3.out.out.touch (.of_grown GR.out) (fun s hs => by rw [List.mem_singleton.1 hs]; exact S3.out.out.ne S3.out.all (by decide)), S3.out.sep, BK.out⟩)
                    clear GR BK
                    go_wp2_with fail
                    go_roundg (n - (i + 1))
                    case measure => omega
                    case rel => exact ⟨i + 1, u.add ord, X, F', A1, c1, rfl, by omega, rfl, by go_num, S4⟩
                · as_aux_lemma =>
                    have GR := Lib.hid (show w3.grownBy (w3.setCell ⟨w.heap.size, 0, none⟩ (.bool false)) (some w.heap.size) from (grown_set _ _ _ _))
                    have BK := Lib.hid (show Blk (w3.setCell ⟨w.heap.size, 0, none⟩ (.bool false)) w.heap.size 63 [.bool !(u.add ord).so, .bool !(u.add ord).tot, .bool !(u.add ord).tim] from by
                      have := (S3.out.all.set 0 (.bool false))
                      simpa [Fl.add, k0] using this)
                    have S4 := Lib.hid (show PS w (w3.setCell ⟨w.heap.size, 0, none⟩ (.bool false)) g F T l commit now (some ⟨b, o, none⟩) c n (i + 1) (u.add ord) X F' A1 c1 from
                      ⟨by rw [S3.out.eq, pass_step HE.out, if_neg (by rw [HH.out]; simp), if_neg (by rw [HLT.out]; simp)], Nat.le_succ_of_le S3.out.xl, S3.out.rq.touch (.of_grown GR.out) (fun s hs => by rw [List.mem_singleton.1 hs]; exact NF.out), S3.out.sub,
                        S3.out.touch.trans4 (.of_grown GR.out) (fun s hs => by rw [List.mem_singleton.1 hs]; exact .inr (Nat.le_refl _)), S3.out.rd.below ((Below.refl w.heap.size w3).grown GR.out S3.out.touch.size (fun k hk => by cases hk; exact Nat.le_refl _)),
                        S3.out.out.touch (.of_grown GR.out) (fun s hs => by rw [List.mem_singleton.1 hs]; exact S3.out.out.ne S3.out.all (by decide)), S3.out.sep, BK.out⟩)
                    clear GR BK
                    go_wp2_with fail
                    go_roundg (n - (i + 1))
                    case measure => omega
                    case rel => exact ⟨i + 1, u.add ord, X, F', A1, c1, rfl, by omega, rfl, by go_num, S4⟩
              case true =>
                clear c0 c1' c2 j3
                obtain ⟨d0, d1, d2, d3, d4, d5, d6⟩ := K2.out.ent
                have S2a := Lib.hid (S2.out.past ((Below.refl wc.heap.size wc).alloc (Nat.le_refl _) (.cells #[.int .i64 ((i : Int) + 1), .int .i64 fr, .int .i64 boot, .int .i64 seq, .int .i64 ord, .int .i64 lev, .int .i64 stamp, .string data] 44)))
                have K2a := Lib.hid (K2.out.alloc (.cells #[.int .i64 ((i : Int) + 1), .int .i64 fr, .int .i64 boot, .int .i64 seq, .int .i64 ord, .int .i64 lev, .int .i64 stamp, .string data] 44))
                have KTa := Lib.hid (Blk.newTold wc 44 ((i : Int) + 1, (⟨fr, boot, seq, ord, lev, stamp, data⟩ : Ent)))
                go_wp2_with fail
                clear d0 d1 d2 d3 d4 d5 d6
                have HRQ := Lib.hid S2.out.rq
                obtain ⟨kt, hkt⟩ : ∃ k, wc.heap.size = k := ⟨_, rfl⟩
                rw [hkt] at KTa ⊢
                have HKT := Lib.hid (show kt ∉ F' from fun hm => by have := HRQ.out.hi _ hm; omega)
                clear HRQ
                generalize (wc.alloc (.cells #[.int .i64 ((i : Int) + 1), .int .i64 fr, .int .i64 boot, .int .i64 seq, .int .i64 ord, .int .i64 lev, .int .i64 stamp, .string data] 44)) = wd at *
                clear S2 K2
                have S2 := Lib.hid (show PS w wd.drew g F T l commit now (some ⟨b, o, none⟩) c n i u X F' A1 c1 from ⟨S2a.out.eq, S2a.out.xl, S2a.out.rq.drew, S2a.out.sub, S2a.out.touch.drew, S2a.out.rd, S2a.out.out, S2a.out.sep, S2a.out.all⟩)
                have K2 := Lib.hid (show Blk wd.drew wr.heap.size 39 (ecs ⟨fr, boot, seq, ord, lev, stamp, data⟩) from K2a.out)
                have KT := Lib.hid (show Blk wd.drew kt 44 (tcs ((i : Int) + 1, (⟨fr, boot, seq, ord, lev, stamp, data⟩ : Ent))) from KTa.out)
                clear S2a K2a KTa
                obtain ⟨A5, c5, hB5, hO5, hF5⟩ := S2.out.rq.ex
                have HFF := Lib.hid hF5
                have HB4 := Lib.hid hB5
                have HO4 := Lib.hid hO5
                have HX := Lib.hid (show (T ++ X).length < 1000000 by have := HTN.out; have := S2.out.xl; simp only [List.length_append]; omega)
                have HG := Lib.hid (show bk A5 ≠ some g from hO5.ne hB5 (by decide))
                have NF := Lib.hid (S2.out.rq.not S2.out.all (by decide) (by decide))
                have NE := Lib.hid (S2.out.rq.not K2.out (by decide) (by decide))
                have NT := HKT
                have KGo := Lib.hid (show kt ∉ g :: bl A5 from by rw [← hF5]; exact NT.out)
                clear hB5 hO5 hF5
                clear hkt
                refine Hs.begin (g :: bl A5) ?_
                generalize wd.drew = wz at *
                refine Hs.take (v := .pointer (some ⟨g, 0, none⟩)) 0 97 rfl ?_ (fun _ _ => rfl)
                refine Hs.take (v := .pointer (some ⟨g, 0, none⟩)) 1 98 rfl ?_ (fun _ _ => rfl)
                refine Hs.take (v := .pointer (some ⟨g, 0, none⟩)) 2 99 rfl ?_ (fun _ _ => rfl)
                refine Hs.take (v := .pointer (some ⟨g, 0, none⟩)) 3 100 rfl ?_ (fun w' hw' => by go_simp)
                refine Hs.take (v := tv ((i : Int) + 1, (⟨fr, boot, seq, ord, lev, stamp, data⟩ : Ent))) 5 102 rfl ?_ (fun w' hw' => run_loadT ((KT.out.touch hw' KGo.out).range) rfl)
                have BA := Lib.hid (show Below wz.heap.size wz (wz.alloc (.cells (tcs ((i : Int) + 1, (⟨fr, boot, seq, ord, lev, stamp, data⟩ : Ent))).toArray 44)) from (Below.refl _ _).alloc (Nat.le_refl _) _)
                have HBA := Lib.hid (HB4.out.past BA.out)
                have HOA := Lib.hid (HO4.out.past BA.out)
                have HTA := Lib.hid (show Touch F' wz (wz.alloc (.cells (tcs ((i : Int) + 1, (⟨fr, boot, seq, ord, lev, stamp, data⟩ : Ent))).toArray 44)) from .of_below BA.out)
                have HN := Lib.hid (Rd.new wz (tcs ((i : Int) + 1, (⟨fr, boot, seq, ord, lev, stamp, data⟩ : Ent))).toArray 44 8 1 rfl (by unfold maxLen; omega))
                refine Hs.two 4 6 ?_ ?_
                · as_aux_lemma =>
                    refine Hs.pick 4 (some 101) rfl ?_
                    refine wpList_runTo' rfl (.slice A5 (T ++ X).length c5) _ (run_loadS (HB4.out.cell (i := 0) rfl) rfl) ?_
                    refine Hs.next (Touch.refl _ _) ?_
                    refine Hs.only 6 (some 103) rfl ?_
                    refine wpList_buildT rfl (.tmp 102) rfl ((i : Int) + 1, (⟨fr, boot, seq, ord, lev, stamp, data⟩ : Ent)) rfl ?_
                    refine Hs.next (.of_below BA.out) ?_ (by simp only [Act.put, List.setIfInBounds_toArray, List.set_cons_succ, List.set_cons_zero]; rfl)
                    refine Hs.only 7 (some 104) rfl ?_
                    refine wpList_app2 rfl (.tmp 101) (.tmp 103) 30 rfl 0 44 _ 8 72 Try.underlying30 told_info rfl (by omega) A5 (T ++ X).length c5 (tls (T ++ X)) rfl HOA.out _ _ 1 1 (tcs ((i : Int) + 1, (⟨fr, boot, seq, ord, lev, stamp, data⟩ : Ent))) rfl HN.out (tcs_one ((i : Int) + 1, (⟨fr, boot, seq, ord, lev, stamp, data⟩ : Ent))) (by have := HX.out; unfold maxLen; omega) (by have := HX.out; omega) (Nat.zero_le _) ?_
                    intro A6 c6 w5 O5 g5 h5
                    refine Hs.next ((Touch.of_bk g5).wide (fun k hk => List.mem_cons_of_mem _ hk)) ?_ (by simp only [Act.put, List.setIfInBounds_toArray, List.set_cons_succ, List.set_cons_zero]; rfl)
                    have K5 : Blk w5 g 32 [.slice A5 (T ++ X).length c5] := HBA.out.touch (Touch.of_bk g5) (fun hm => HG.out (mem_bl.1 hm))
                    have W5 := Lib.hid (Rq.app HBA.out HOA.out HX.out g5 h5 O5)
                    clear O5 h5
                    refine Hs.take (v := .pointer (some ⟨g, 0, none⟩)) 8 105 rfl ?_ (fun _ _ => rfl)
                    refine Hs.take (v := .pointer (some ⟨g, 0, none⟩)) 9 106 rfl ?_ (fun w' hw' => by go_simp)
                    refine Hs.only 10 none rfl ?_
                    refine wpList_store_oneTo rfl 30 (.tmp 106) (.tmp 104) rfl rfl g (.slice A6 ((T ++ X).length + 1) c6) rfl rfl rfl 32 _ K5 (by kernel_rfl) ?_
                    refine Hs.next ((Touch.of_grown (grown_row w5 g _)).wide (by simp)) ?_ rfl
                    refine Hs.done ?_
                    clear K5 g5
                    generalize w5.setRow g #[.slice A6 ((T ++ X).length + 1) c6] = w6 at *
                    obtain ⟨F6, q6, s6⟩ := W5.out.ex
                    have T6 := Lib.hid (show Touch F' wz w6 from (HTA.out.trans4 W5.out.touch (fun x hx => by rw [HFF.out]; exact .inl hx)))
                    have Q6 := Lib.hid q6
                    have SUB6 := Lib.hid (show ∀ k ∈ F6, k ∈ F' ∨ wz.heap.size ≤ k from fun k hk => (s6 k hk).imp (fun hk => by rw [HFF.out]; exact hk) (fun hk => Nat.le_trans HTA.out.size hk))
                    have O6 := Lib.hid (show Ow w6 w.heap.size 44 8 A1 X.length c1 (tls X) from S2.out.out.touch T6.out (fun s hs e => S2.out.sep s e hs))
                    have SEP6 := Lib.hid (show ∀ k, bk A1 = some k → k ∉ F6 from fun k hk hm => by
                      rcases SUB6.out k hm with q | q
                      · exact S2.out.sep k hk q
                      · have := S2.out.out.hi k hk; omega)
                    have KT6 := Lib.hid (KT.out.touch T6.out NT.out)
                    have KE6 := Lib.hid (K2.out.touch T6.out NE.out)
                    have AL6 := Lib.hid (S2.out.all.touch T6.out NF.out)
                    clear W5 q6 s6 HBA HOA HTA HN HB4 HO4 KT BA
                    have BL := Lib.hid ((Below.refl w6.heap.size w6).alloc (Nat.le_refl _) (.cells (tcs ((i : Int) + 1, (⟨fr, boot, seq, ord, lev, stamp, data⟩ : Ent))).toArray 44))
                    have HN6 := Lib.hid (Rd.new w6 (tcs ((i : Int) + 1, (⟨fr, boot, seq, ord, lev, stamp, data⟩ : Ent))).toArray 44 8 1 rfl (by unfold maxLen; omega))
                    have O6' := Lib.hid (O6.out.past BL.out)
                    have HXL := Lib.hid S2.out.xl
                    go_wp2_with (first
                      | ((with_reducible show wpList _ _ _ ((⟨some 108, _, _, _, _, _⟩ : Oper) :: _) _ _); refine wpList_runTo' rfl (tv ((i : Int) + 1, (⟨fr, boot, seq, ord, lev, stamp, data⟩ : Ent))) _ (run_loadT KT6.out.range rfl) ?_)
                      | ((with_reducible show wpList _ _ _ ((⟨some 109, _, _, _, _, _⟩ : Oper) :: _) _ _); refine wpList_buildT rfl (.tmp 108) rfl ((i : Int) + 1, (⟨fr, boot, seq, ord, lev, stamp, data⟩ : Ent)) rfl ?_)
                      | ((with_reducible show wpList _ _ _ ((⟨some 110, _, _, _, _, _⟩ : Oper) :: _) _ _); go_must (refine wpList_app2 rfl (.tmp 107) (.tmp 109) 30 rfl w.heap.size 44 _ 8 72 Try.underlying30 told_info rfl (by omega) A1 X.length c1 (tls X) rfl O6'.out _ _ 1 1 (tcs ((i : Int) + 1, (⟨fr, boot, seq, ord, lev, stamp, data⟩ : Ent))) rfl HN6.out (tcs_one ((i : Int) + 1, (⟨fr, boot, seq, ord, lev, stamp, data⟩ : Ent))) (by have := HXL.out; unfold maxLen; omega) (by have := HXL.out; omega) (Nat.le_trans S2.out.touch.size (Nat.le_trans T6.out.size BL.out.size)) ?_)))
                    intro A7 c7 w7 O7 g7 h7
                    have T7 := Lib.hid (show Touch (bl A1) w6 w7 from (Touch.of_below BL.out).trans (Touch.of_bk g7))
                    have S7 := Lib.hid (show PS w w7 g F T l commit now (some ⟨b, o, none⟩) c n (i + 1) u (X ++ [((i : Int) + 1, (⟨fr, boot, seq, ord, lev, stamp, data⟩ : Ent))]) F6 A7 c7 from by
                      have hne : ∀ s ∈ bl A1, s ∉ F6 := fun s hs => SEP6.out s (mem_bl.1 hs)
                      have hlow : ∀ s ∈ bl A1, w.heap.size ≤ s := fun s hs => S2.out.out.low s (mem_bl.1 hs)
                      refine ⟨?_, by have := HXL.out; simp only [List.length_append, List.length_cons, List.length_nil]; omega, ?_, fun k hk => ?_, ?_, ?_, ?_, fun k hk hm => ?_, ?_⟩
                      · rw [S2.out.eq, pass_step HE.out, if_neg (by rw [HH.out]; simp), if_pos HLT.out, List.append_assoc, List.append_assoc]; rfl
                      · rw [← List.append_assoc]; exact Q6.out.touch T7.out hne
                      · rcases SUB6.out k hk with q | q
                        · exact S2.out.sub k q
                        · exact .inr (Nat.le_trans S2.out.touch.size q)
                      · exact (S2.out.touch.trans4 T6.out S2.out.sub).trans4 T7.out (fun x hx => .inr (hlow x hx))
                      · refine (S2.out.rd.touch T6.out (fun hz s hs => ?_)).below (T7.out.below hlow (Nat.le_trans S2.out.touch.size T6.out.size))
                        rcases S2.out.sub s hs with q | q
                        · exact HD.out hz s q
                        · obtain ⟨b', o', hA, hb', _⟩ := S2.out.rd.2.2.2.2 hz
                          intro e
                          rw [hA] at e
                          have : b' = s := by simpa [bk] using e
                          omega
                      · have e1 : tls (X ++ [((i : Int) + 1, (⟨fr, boot, seq, ord, lev, stamp, data⟩ : Ent))]) = tls X ++ tcs ((i : Int) + 1, (⟨fr, boot, seq, ord, lev, stamp, data⟩ : Ent)) := by rw [tls_append]; simp [tls]
                        rw [e1, List.length_append]; exact O7
                      · rcases h7 k hk with q | q
                        · exact SEP6.out k q hm
                        · have := Q6.out.hi k hm
                          have := BL.out.size
                          omega
                      · exact (AL6.out.past BL.out).touch (Touch.of_bk g7) (fun hm => O6.out.ne AL6.out (by decide) (mem_bl.1 hm)))
                    have KE7 := Lib.hid ((KE6.out.past BL.out).touch (Touch.of_bk g7) (fun hm => O6.out.ne KE6.out (by decide) (mem_bl.1 hm)))
                    have HH7 := Lib.hid (show has (T ++ (X ++ [((i : Int) + 1, (⟨fr, boot, seq, ord, lev, stamp, data⟩ : Ent))])) ⟨fr, boot, seq, ord, lev, stamp, data⟩ = true by rw [← List.append_assoc, has_snoc, PLog.same_self, Bool.or_true])
                    clear O7 g7 h7 T7 O6 O6' KE6 AL6 KT6 Q6 SUB6 SEP6 T6 HXL HN6 BL
                    obtain ⟨d0, d1, d2, d3, d4, d5, d6⟩ := KE7.out.ent
                    go_wp2_with fail
                    clear d0 d1 d2 d3 d4 d5 d6
                    refine (show Calls Try.prog _ #[_, .agg #[.int .i64 fr, .int .i64 boot, .int .i64 seq, .int .i64 ord, .int .i64 lev, .int .i64 stamp, .string data]] w7 _ from rHasQ_c w7 g F6 _ S7.out.rq ⟨fr, boot, seq, ord, lev, stamp, data⟩).mono ?_
                    rw [HH7.out]
                    rintro x w8 ⟨rfl, b8⟩
                    have S8 := Lib.hid (S7.out.past b8)
                    clear b8 S7 KE7
                    go_wp2_with fail
                    go_roundg (n - (i + 1))
                    case measure => omega
                    case rel => exact ⟨i + 1, u, X ++ [((i : Int) + 1, (⟨fr, boot, seq, ord, lev, stamp, data⟩ : Ent))], F6, A7, c7, rfl, by omega, by simp, by go_num, S8⟩
                · as_aux_lemma =>
                    refine Hs.pick 6 (some 103) rfl ?_
                    refine wpList_buildT rfl (.tmp 102) rfl ((i : Int) + 1, (⟨fr, boot, seq, ord, lev, stamp, data⟩ : Ent)) rfl ?_
                    refine Hs.next (.of_below BA.out) ?_ (by simp only [Act.put, List.setIfInBounds_toArray, List.set_cons_succ, List.set_cons_zero]; rfl)
                    refine Hs.only 4 (some 101) rfl ?_
                    refine wpList_runTo' rfl (.slice A5 (T ++ X).length c5) _ (run_loadS (HBA.out.cell (i := 0) rfl) rfl) ?_
                    refine Hs.next (Touch.refl _ _) ?_
                    refine Hs.only 7 (some 104) rfl ?_
                    refine wpList_app2 rfl (.tmp 101) (.tmp 103) 30 rfl 0 44 _ 8 72 Try.underlying30 told_info rfl (by omega) A5 (T ++ X).length c5 (tls (T ++ X)) rfl HOA.out _ _ 1 1 (tcs ((i : Int) + 1, (⟨fr, boot, seq, ord, lev, stamp, data⟩ : Ent))) rfl HN.out (tcs_one ((i : Int) + 1, (⟨fr, boot, seq, ord, lev, stamp, data⟩ : Ent))) (by have := HX.out; unfold maxLen; omega) (by have := HX.out; omega) (Nat.zero_le _) ?_
                    intro A6 c6 w5 O5 g5 h5
                    refine Hs.next ((Touch.of_bk g5).wide (fun k hk => List.mem_cons_of_mem _ hk)) ?_ (by simp only [Act.put, List.setIfInBounds_toArray, List.set_cons_succ, List.set_cons_zero]; rfl)
                    have K5 : Blk w5 g 32 [.slice A5 (T ++ X).length c5] := HBA.out.touch (Touch.of_bk g5) (fun hm => HG.out (mem_bl.1 hm))
                    have W5 := Lib.hid (Rq.app HBA.out HOA.out HX.out g5 h5 O5)
                    clear O5 h5
                    refine Hs.take (v := .pointer (some ⟨g, 0, none⟩)) 8 105 rfl ?_ (fun _ _ => rfl)
                    refine Hs.take (v := .pointer (some ⟨g, 0, none⟩)) 9 106 rfl ?_ (fun w' hw' => by go_simp)
                    refine Hs.only 10 none rfl ?_
                    refine wpList_store_oneTo rfl 30 (.tmp 106) (.tmp 104) rfl rfl g (.slice A6 ((T ++ X).length + 1) c6) rfl rfl rfl 32 _ K5 (by kernel_rfl) ?_
                    refine Hs.next ((Touch.of_grown (grown_row w5 g _)).wide (by simp)) ?_ rfl
                    refine Hs.done ?_
                    clear K5 g5
                    generalize w5.setRow g #[.slice A6 ((T ++ X).length + 1) c6] = w6 at *
                    obtain ⟨F6, q6, s6⟩ := W5.out.ex
                    have T6 := Lib.hid (show Touch F' wz w6 from (HTA.out.trans4 W5.out.touch (fun x hx => by rw [HFF.out]; exact .inl hx)))
                    have Q6 := Lib.hid q6
                    have SUB6 := Lib.hid (show ∀ k ∈ F6, k ∈ F' ∨ wz.heap.size ≤ k from fun k hk => (s6 k hk).imp (fun hk => by rw [HFF.out]; exact hk) (fun hk => Nat.le_trans HTA.out.size hk))
                    have O6 := Lib.hid (show Ow w6 w.heap.size 44 8 A1 X.length c1 (tls X) from S2.out.out.touch T6.out (fun s hs e => S2.out.sep s e hs))
                    have SEP6 := Lib.hid (show ∀ k, bk A1 = some k → k ∉ F6 from fun k hk hm => by
                      rcases SUB6.out k hm with q | q
                      · exact S2.out.sep k hk q
                      · have := S2.out.out.hi k hk; omega)
                    have KT6 := Lib.hid (KT.out.touch T6.out NT.out)
                    have KE6 := Lib.hid (K2.out.touch T6.out NE.out)
                    have AL6 := Lib.hid (S2.out.all.touch T6.out NF.out)
                    clear W5 q6 s6 HBA HOA HTA HN HB4 HO4 KT BA
                    have BL := Lib.hid ((Below.refl w6.heap.size w6).alloc (Nat.le_refl _) (.cells (tcs ((i : Int) + 1, (⟨fr, boot, seq, ord, lev, stamp, data⟩ : Ent))).toArray 44))
                    have HN6 := Lib.hid (Rd.new w6 (tcs ((i : Int) + 1, (⟨fr, boot, seq, ord, lev, stamp, data⟩ : Ent))).toArray 44 8 1 rfl (by unfold maxLen; omega))
                    have O6' := Lib.hid (O6.out.past BL.out)
                    have HXL := Lib.hid S2.out.xl
                    go_wp2_with (first
                      | ((with_reducible show wpList _ _ _ ((⟨some 108, _, _, _, _, _⟩ : Oper) :: _) _ _); refine wpList_runTo' rfl (tv ((i : Int) + 1, (⟨fr, boot, seq, ord, lev, stamp, data⟩ : Ent))) _ (run_loadT KT6.out.range rfl) ?_)
                      | ((with_reducible show wpList _ _ _ ((⟨some 109, _, _, _, _, _⟩ : Oper) :: _) _ _); refine wpList_buildT rfl (.tmp 108) rfl ((i : Int) + 1, (⟨fr, boot, seq, ord, lev, stamp, data⟩ : Ent)) rfl ?_)
                      | ((with_reducible show wpList _ _ _ ((⟨some 110, _, _, _, _, _⟩ : Oper) :: _) _ _); go_must (refine wpList_app2 rfl (.tmp 107) (.tmp 109) 30 rfl w.heap.size 44 _ 8 72 Try.underlying30 told_info rfl (by omega) A1 X.length c1 (tls X) rfl O6'.out _ _ 1 1 (tcs ((i : Int) + 1, (⟨fr, boot, seq, ord, lev, stamp, data⟩ : Ent))) rfl HN6.out (tcs_one ((i : Int) + 1, (⟨fr, boot, seq, ord, lev, stamp, data⟩ : Ent))) (by have := HXL.out; unfold maxLen; omega) (by have := HXL.out; omega) (Nat.le_trans S2.out.touch.size (Nat.le_trans T6.out.size BL.out.size)) ?_)))
                    intro A7 c7 w7 O7 g7 h7
                    have T7 := Lib.hid (show Touch (bl A1) w6 w7 from (Touch.of_below BL.out).trans (Touch.of_bk g7))
                    have S7 := Lib.hid (show PS w w7 g F T l commit now (some ⟨b, o, none⟩) c n (i + 1) u (X ++ [((i : Int) + 1, (⟨fr, boot, seq, ord, lev, stamp, data⟩ : Ent))]) F6 A7 c7 from by
                      have hne : ∀ s ∈ bl A1, s ∉ F6 := fun s hs => SEP6.out s (mem_bl.1 hs)
                      have hlow : ∀ s ∈ bl A1, w.heap.size ≤ s := fun s hs => S2.out.out.low s (mem_bl.1 hs)
                      refine ⟨?_, by have := HXL.out; simp only [List.length_append, List.length_cons, List.length_nil]; omega, ?_, fun k hk => ?_, ?_, ?_, ?_, fun k hk hm => ?_, ?_⟩
                      · rw [S2.out.eq, pass_step HE.out, if_neg (by rw [HH.out]; simp), if_pos HLT.out, List.append_assoc, List.append_assoc]; rfl
                      · rw [← List.append_assoc]; exact Q6.out.touch T7.out hne
                      · rcases SUB6.out k hk with q | q
                        · exact S2.out.sub k q
                        · exact .inr (Nat.le_trans S2.out.touch.size q)
                      · exact (S2.out.touch.trans4 T6.out S2.out.sub).trans4 T7.out (fun x hx => .inr (hlow x hx))
                      · refine (S2.out.rd.touch T6.out (fun hz s hs => ?_)).below (T7.out.below hlow (Nat.le_trans S2.out.touch.size T6.out.size))
                        rcases S2.out.sub s hs with q | q
                        · exact HD.out hz s q
                        · obtain ⟨b', o', hA, hb', _⟩ := S2.out.rd.2.2.2.2 hz
                          intro e
                          rw [hA] at e
                          have : b' = s := by simpa [bk] using e
                          omega
                      · have e1 : tls (X ++ [((i : Int) + 1, (⟨fr, boot, seq, ord, lev, stamp, data⟩ : Ent))]) = tls X ++ tcs ((i : Int) + 1, (⟨fr, boot, seq, ord, lev, stamp, data⟩ : Ent)) := by rw [tls_append]; simp [tls]
                        rw [e1, List.length_append]; exact O7
                      · rcases h7 k hk with q | q
                        · exact SEP6.out k q hm
                        · have := Q6.out.hi k hm
                          have := BL.out.size
                          omega
                      · exact (AL6.out.past BL.out).touch (Touch.of_bk g7) (fun hm => O6.out.ne AL6.out (by decide) (mem_bl.1 hm)))
                    have KE7 := Lib.hid ((KE6.out.past BL.out).touch (Touch.of_bk g7) (fun hm => O6.out.ne KE6.out (by decide) (mem_bl.1 hm)))
                    have HH7 := Lib.hid (show has (T ++ (X ++ [((i : Int) + 1, (⟨fr, boot, seq, ord, lev, stamp, data⟩ : Ent))])) ⟨fr, boot, seq, ord, lev, stamp, data⟩ = true by rw [← List.append_assoc, has_snoc, PLog.same_self, Bool.or_true])
                    clear O7 g7 h7 T7 O6 O6' KE6 AL6 KT6 Q6 SUB6 SEP6 T6 HXL HN6 BL
                    obtain ⟨d0, d1, d2, d3, d4, d5, d6⟩ := KE7.out.ent
                    go_wp2_with fail
                    clear d0 d1 d2 d3 d4 d5 d6
                    refine (show Calls Try.prog _ #[_, .agg #[.int .i64 fr, .int .i64 boot, .int .i64 seq, .int .i64 ord, .int .i64 lev, .int .i64 stamp, .string data]] w7 _ from rHasQ_c w7 g F6 _ S7.out.rq ⟨fr, boot, seq, ord, lev, stamp, data⟩).mono ?_
                    rw [HH7.out]
                    rintro x w8 ⟨rfl, b8⟩
                    have S8 := Lib.hid (S7.out.past b8)
                    clear b8 S7 KE7
                    go_wp2_with fail
                    go_roundg (n - (i + 1))
                    case measure => omega
                    case rel => exact ⟨i + 1, u, X ++ [((i : Int) + 1, (⟨fr, boot, seq, ord, lev, stamp, data⟩ : Ent))], F6, A7, c7, rfl, by omega, by simp, by go_num, S8⟩
    · obtain rfl : i = n := by omega
      have HG := Lib.hid (show go commit now T l = X by rw [HS.out.eq, pass_done (by rw [HL.out]; exact Nat.le_refl _), List.append_nil])
      go_wp2_with fail
      go_ret
      exact ⟨A1, c1, by rw [HG.out]; rfl, by rw [HG.out]; exact HS.out.out, by rw [HG.out]; exact ⟨⟨F', HS.out.rq, HS.out.sub⟩, HS.out.touch⟩⟩
end Go.Proofs.Ythmcjehpmfebaaa
