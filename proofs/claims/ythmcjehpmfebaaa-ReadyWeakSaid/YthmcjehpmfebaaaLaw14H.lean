/- The walk of ReadyWeak. -/
import Derived.Test.YthmcjehpmfebaaaReadyM
namespace Go.Proofs.Ythmcjehpmfebaaa
open Go.RowKit PReady

/-- A Weak one of any order. -/
def wk (e : Ent) : Ent := ⟨e.fr, e.boot, e.seq, 0, 0, e.stamp, e.data⟩
def wkL (i : Nat) (l : List Ent) : List Ent := (l.take i).map wk ++ l.drop i
theorem wkL_len (i : Nat) (l : List Ent) : (wkL i l).length = l.length := by simp [wkL]; omega
theorem wkL_at {i : Nat} {l : List Ent} {e : Ent} (he : l[i]? = some e) : (wkL i l)[i]? = some e := by
  obtain ⟨hi, rfl⟩ := List.getElem?_eq_some_iff.1 he
  unfold wkL
  rw [List.getElem?_append_right (by simp; omega)]
  simp [Nat.min_eq_left (Nat.le_of_lt hi)]
theorem wkL_step {i : Nat} {l : List Ent} {e : Ent} (he : l[i]? = some e) : (wkL i l).set i (wk e) = wkL (i + 1) l := by
  obtain ⟨hi, rfl⟩ := List.getElem?_eq_some_iff.1 he
  unfold wkL
  have h1 : ((l.take i).map wk).length = i := by simp; omega
  rw [List.set_append_right _ _ (by omega), h1, Nat.sub_self, List.drop_eq_getElem_cons hi, List.set_cons_zero, ← List.take_append_getElem hi, List.map_append]
  simp only [List.map_cons, List.map_nil, List.append_assoc, List.singleton_append]
theorem wkL_all (l : List Ent) : wkL l.length l = l.map wk := by simp [wkL]
theorem els_wk : ∀ {L : List Ent} {i : Nat} {e : Ent}, L[i]? = some e → ((els L).set (i * 7 + 3) (.int .i64 0)).set (i * 7 + 4) (.int .i64 0) = els (L.set i (wk e))
  | x :: r, 0, e, h => by
    simp at h; subst h; rfl
  | x :: r, i + 1, e, h => by
    have ih := els_wk (L := r) (i := i) (e := e) (by simpa using h)
    show ((ecs x ++ els r).set ((i + 1) * 7 + 3) _).set ((i + 1) * 7 + 4) _ = ecs x ++ els (r.set i (wk e))
    rw [List.set_append_right _ _ (by rw [ecs_length]; omega), List.set_append_right _ _ (by rw [ecs_length]; omega), ← ih, ecs_length]
    rw [show (i + 1) * 7 + 3 - 7 = i * 7 + 3 by omega, show (i + 1) * 7 + 4 - 7 = i * 7 + 4 by omega]
theorem LL.wk {l : List Ent} {m : Nat} (h : LL l m) : LL (l.map wk) m := by
  refine ⟨fun e he => ?_, ?_, by rw [List.length_map]; exact h.le⟩
  · obtain ⟨x, hx, rfl⟩ := List.mem_map.1 he
    have hm := (PEnt.may_iff x).1 (h.may x hx)
    exact (PEnt.may_iff _).2 ⟨hm.1, hm.2.1, hm.2.2.1, ⟨Int.le_refl 0, show (0 : Int) ≤ 2 by decide⟩, ⟨Int.le_refl 0, show (0 : Int) ≤ 2 by decide⟩, hm.2.2.2.2.2.1, hm.2.2.2.2.2.2⟩
  · unfold Apart
    rw [List.pairwise_map]
    exact h.ap.imp (fun {a b} h => h)
theorem pass_weak {commit now : Int} : ∀ {l : List Ent} {i : Nat} {u : Fl} {T : List Tl}, Apart l → (∀ e ∈ l, has T e = false) → (∀ e ∈ l, e.ord = 0 ∧ e.lev = 0) → pass commit now i u T l = tk i l
  | [], _, _, _, _, _, _ => rfl
  | e :: r, i, u, T, hA, hh, hw => by
    obtain ⟨hA1, hA2⟩ := List.pairwise_cons.1 hA
    obtain ⟨h1, h2⟩ := hw e (List.mem_cons_self ..)
    simp only [pass]
    rw [if_neg (by rw [hh e (List.mem_cons_self ..)]; simp), if_pos (by simp [lets, level, order, h1, h2]), pass_weak hA2 (fun x hx => by rw [has_snoc, hh x (List.mem_cons_of_mem _ hx), hA1 x hx]; rfl) (fun x hx => hw x (List.mem_cons_of_mem _ hx))]
    rfl
theorem weak_go {l : List Ent} (hA : Apart l) (commit now : Int) : go commit now [] (l.map wk) = tk 0 (l.map wk) := by
  refine pass_weak ?_ (fun _ _ => rfl) (fun e he => ?_)
  · unfold Apart
    rw [List.pairwise_map]
    exact hA.imp (fun {a b} h => h)
  · obtain ⟨x, _, rfl⟩ := List.mem_map.1 he
    exact ⟨rfl, rfl⟩
theorem go_none' {commit now : Int} {T : List Tl} {l : List Ent} (h : ∀ e ∈ l, has T e = true) : go commit now T l = [] := by
  have := pass_seen (commit := commit) (now := now) (u := Fl.none) (T := T) l [] 0 h
  rw [List.append_nil] at this
  unfold go
  rw [this]; rfl
theorem ap_reverse {l : List Ent} (h : Apart l) : Apart l.reverse := by
  unfold Apart
  rw [List.pairwise_reverse]
  exact h.imp (fun {a b} h => by rw [same_comm]; exact h)

set_option maxHeartbeats 16000000 in
set_option maxRecDepth 100000 in
theorem ReadyWeak_w (w : World) (A0 : Option Addr) (c0 n0 : Nat) (l0 : List Ent) (H00 : Rd w w.heap.size A0 c0 7 n0 (els l0)) (hok : ∀ e ∈ l0, EntOk e) :
    Calls Try.prog 11 #[.slice A0 n0 c0] w fun e w' => e = .returned (.bool true) ∧ Below w.heap.size w w' := by
  have H0 := Lib.hid H00
  have HOK := Lib.hid hok
  clear H00 hok
  go_enter Try.func11, Try.ntmps11
  go_wp2_with fail
  refine (begun_c w).mono ?_
  rintro x w1 ⟨rfl, b1⟩
  have B1 := Lib.hid b1
  clear b1
  go_wp2_with fail
  refine (lEntries_c w1 A0 c0 n0 l0 12 (H0.out.past B1.out).tight HOK.out (by decide) (by decide)).mono ?_
  rintro x w2 ⟨A2, c2, es, rfl, hlen, ho2, hsm, b2⟩
  have HES := Lib.hid (show es.length ≤ 12 by have : ((12 : Int)).toNat = 12 := rfl; omega)
  have O2 := Lib.hid (Rd.of_own ho2)
  have B2 := Lib.hid (B1.out.trans (b2.mono B1.out.size))
  clear hlen ho2 hsm b2 B1
  go_wp2_with fail
  refine (rLog_c w2 _ A2 c2 es.length es O2.out).mono ?_
  rintro x w3 ⟨A3, c3, rfl, ho3, b3⟩
  have LLH := Lib.hid (LL.log es HES.out)
  have O3 := Lib.hid (Ow.of_own ho3)
  have HW2 := Lib.hid (show w.heap.size ≤ w2.heap.size from B2.out.size)
  have B3 := Lib.hid (B2.out.trans (b3.mono B2.out.size))
  clear ho3 b3 B2 O2 HES
  generalize PLog.log es = l at *
  have hll : (l.length : Int) ≤ 12 := by have := LLH.out.le; omega
  have hlc := Lib.hid O3.out.le
  go_wp2_with fail
  go_loopw [5] (fun s5 wr => ∃ i : Nat, s5 = .int .i64 i ∧ i ≤ l.length ∧ Hid (Ow wr w2.heap.size 39 7 A3 l.length c3 (els (wkL i l))) ∧ Hid (Below w.heap.size w wr)) (fun s5 _ => l.length - (intOf s5).toNat)
  case atStart => exact ⟨0, rfl, by omega, by rw [show wkL 0 l = l by simp [wkL]]; exact O3, B3⟩
  case round =>
    clear O3 B3
    obtain ⟨i, rfl, hi, O3, B3⟩ := hrel
    by_cases h1 : i < l.length
    · obtain ⟨e, he⟩ : ∃ e, l[i]? = some e := ⟨l[i], List.getElem?_eq_getElem h1⟩
      obtain ⟨gk, hA, hgk, -⟩ := O3.out.some (by omega)
      have hlen : (els (wkL i l)).length = l.length * 7 := by rw [els_length, wkL_len]
      have k3 := O3.out.cell hA (show (els (wkL i l))[i * 7 + 3]? = some (.int .i64 e.ord) by rw [els_at (wkL_at he) (by omega)]; rfl)
      have k4 := O3.out.cell hA (show (els (wkL i l))[i * 7 + 4]? = some (.int .i64 e.lev) by rw [els_at (wkL_at he) (by omega)]; rfl)
      have OS := (O3.out.set hA (i := i * 7 + 3) (by omega) (.int .i64 0)).set hA (i := i * 7 + 4) (by rw [List.length_set]; omega) (.int .i64 0)
      rw [els_wk (wkL_at he), wkL_step he] at OS
      have BS := Lib.hid (B3.out.trans ((Below.refl w.heap.size wr).grown ((grown_set wr gk (i * 7 + 3) (.int .i64 0)).trans (grown_set _ gk (i * 7 + 4) (.int .i64 0))) B3.out.size (fun k hk => by cases hk; have := HW2.out; omega)))
      have OS' := Lib.hid OS
      obtain ⟨k3, f3⟩ := k3
      obtain ⟨k4, f4⟩ := k4
      subst hA
      clear OS O3 B3 hlen he
      go_wp2_with fail
      go_roundw
      case rel => exact ⟨i + 1, by go_num, by omega, OS', BS⟩
      case measure => simp [intOf]; omega
    · obtain rfl : i = l.length := by omega
      have LLK := Lib.hid LLH.out.wk
      have RK := Lib.hid (show Rd wr wr.heap.size A3 c3 7 l.length (els (l.map wk)) by have := O3.out.rd; rw [wkL_all] at this; exact this)
      have HGO := Lib.hid (weak_go LLH.out.ap 0 0)
      have hkl : (l.map wk).length = l.length := List.length_map _
      clear O3 hi h1 HW2
      generalize l.map wk = lk at *
      generalize hn : l.length = n at *
      clear LLH hn
      go_wp2_with fail
      refine (New_c wr).mono ?_
      rintro x w4 ⟨rfl, q4, b4⟩
      have S4 := Lib.hid (show Sx w w4 wr.heap.size [wr.heap.size] [] A3 c3 n lk from Sx.made RK.out B3.out q4 b4)
      clear q4 b4 RK B3
      generalize wr.heap.size = g at *
      go_wp2_with fail
      refine (S4.out.go LLK.out.fit LLK.out.ap (by omega) (by simp; omega) 0 0).mono ?_
      rw [HGO.out, tk_len, hkl]
      rintro x w6 ⟨A6, c6, F6, rfl, -, s6, -, -⟩
      have S6 := Lib.hid s6
      have HF6 := Lib.hid s6.qu.hi
      have HB6 := Lib.hid (show w.heap.size ≤ w6.heap.size from s6.bel.size)
      clear s6 S4
      go_wp2_with fail
      go_loopw [8, 9] (fun s8 s9 wr => ∃ (k c' : Nat) (A' : Option Addr), k ≤ n ∧ s8 = .slice A' k c' ∧ s9 = .int .i64 ((n : Int) - 1 - k) ∧ Hid (wr.ownsRow w6.heap.size 39 7 (.slice A' k c') k (els (lk.reverse.take k))) ∧ Hid (Below w6.heap.size w6 wr)) (fun _ s9 _ => (intOf s9 + 1).toNat)
      case atStart => exact ⟨0, 0, none, by omega, rfl, by go_num, Lib.hid (World.ownsRow_nil _ _ _ _), Lib.hid (Below.refl _ _)⟩
      case round =>
        obtain ⟨k, c', A', hk, rfl, rfl, OM, BM⟩ := hrel
        by_cases h2 : k < n
        · obtain ⟨q, hq⟩ : ∃ q : Nat, (n : Int) - 1 - k = q := ⟨n - 1 - k, by omega⟩
          have hqn : q < n := by omega
          rw [hq]
          obtain ⟨b, o, e, rfl, -, he, -, d0, d1, d2, d3, d4, d5, d6⟩ := (S6.out.rd.below BM.out).ent hqn
          have HRV := Lib.hid (show els (lk.reverse.take (k + 1)) = els (lk.reverse.take k) ++ ecs e by
            have : lk.reverse[k]? = some e := by
              rw [List.getElem?_reverse (by omega), ← he]
              congr 1; omega
            rw [take_step this, els_append]; simp [els])
          clear he
          go_wp2_with (at_builtin; go_must (refine wpList_pushes rfl (.tmp 41) (.tmp 46) _ rfl w6.heap.size 39 (ev zeroE) 7 64 1 Try.underlying22 ent_info rfl (by omega) rfl (by unfold maxLen; omega) A' c' k (els (lk.reverse.take k)) rfl OM.out rfl ?h1 ?h2 ?h3 ?h4 ?_))
          case h1 => exact ⟨rfl, rfl, rfl, rfl, rfl, rfl, rfl⟩
          case h2 => unfold maxLen; omega
          case h3 => omega
          case h4 => exact BM.out.size
          intro A2 c2' w7 hown hg7 hb7
          have OM7 := Lib.hid (show w7.ownsRow w6.heap.size 39 7 (.slice A2 (k + 1) c2') (k + 1) (els (lk.reverse.take (k + 1))) by rw [HRV.out]; exact hown)
          have BM7 := Lib.hid (BM.out.trans hb7)
          clear hown hg7 hb7 OM BM d0 d1 d2 d3 d4 d5 d6
          go_wp2_with fail
          go_roundw
          case rel => exact ⟨k + 1, c2', A2, by omega, rfl, by go_num, OM7, BM7⟩
          case measure => first | (simp [intOf]; done) | (simp [intOf]; omega)
        · obtain rfl : k = n := by omega
          have jn : ¬ (0 : Int) ≤ (k : Int) - 1 - k := by omega
          have RM := Lib.hid (show Rd wr wr.heap.size A' c' 7 k (els lk.reverse) by have := Rd.of_own OM.out; rwa [List.take_of_length_le (by rw [List.length_reverse]; omega)] at this)
          have OB := Lib.hid (show ∀ q, bk A' = some q → w6.heap.size ≤ q from (Ow.of_own OM.out).low)
          have S9 := Lib.hid (S6.out.past BM.out)
          have HNO := Lib.hid (go_none' (commit := (k : Int)) (now := 9) (T := [] ++ tk 0 lk) (l := lk.reverse) (fun e he => tk_has (List.mem_reverse.1 he)))
          go_wp2_with fail
          refine (Go_c wr g F6 _ S9.out.qu A' c' k lk.reverse RM.out (fun _ q hq e => by have h1 := OB.out q e; have h2 := HF6.out q hq; omega) (fun e he => LLK.out.fit e (List.mem_reverse.1 he)) (ap_reverse LLK.out.ap) (by omega) (by simp [tk_len]; omega) (k : Int) 9).mono ?_
          rw [HNO.out]
          rintro x wz ⟨Az', cz, rfl, -, qz⟩
          obtain ⟨Fz, z1, z2⟩ := qz.ex
          have SZ := Lib.hid (S9.out.of_qw z1 z2 qz.touch)
          clear qz z1 z2 S9 OM BM RM
          go_wp2_with fail
          refine (Told_c wz g Fz _ SZ.out.qu).mono ?_
          rw [show ((([] : List Tl) ++ tk 0 lk) ++ ([] : List Tl)).length = k by simp [tk_len]; omega]
          rintro x wy ⟨Ay, cy, rfl, -, by'⟩
          go_wp2_with fail
          go_ret
          exact ⟨by simp, SZ.out.bel.trans (by'.mono SZ.out.bel.size)⟩
end Go.Proofs.Ythmcjehpmfebaaa
