/- Contracts of package judge: Once, Cast. -/
import Derived.Test.YtkpgijmpaklfgaaJudA
namespace Go.Proofs.Ytkpgijmpaklfgaa
open Go.RowKit PReady PJud

theorem bo_ok {e : Ent} (h : EntOk e) : EntOk (bo e) := by
  refine ⟨⟨h.fit.f0, h.fit.f1, h.fit.f2, ⟨by simp [bo], by simp [bo]⟩, ⟨by simp [bo], by simp [bo]⟩, ⟨by simp [bo], by simp [bo]⟩⟩, ?_⟩
  show (ByteArray.empty).size ≤ maxLen
  unfold maxLen
  decide
theorem un_ok {e : Ent} (h : EntOk e) : EntOk (un e) := ⟨⟨h.fit.f0, h.fit.f1, h.fit.f2, h.fit.f3, h.fit.f4, ⟨by simp [un], by simp [un]⟩⟩, h.sz⟩
theorem ents_take {l : List Tl} {i : Nat} {t : Tl} (he : l[i]? = some t) (f : Ent → Ent) : (((l.take (i + 1)).map (·.2)).map f) = ((l.take i).map (·.2)).map f ++ [f t.2] := by
  obtain ⟨hi, rfl⟩ := List.getElem?_eq_some_iff.1 he
  rw [← List.take_append_getElem hi, List.map_append, List.map_append]
  rfl

theorem ieq (a b : Nat) : ((a : Int) == (b : Int)) = decide (a = b) := by
  rw [Bool.eq_iff_iff, beq_iff_eq, decide_eq_true_iff]
  omega

set_option maxHeartbeats 4000000 in
set_option maxRecDepth 100000 in
theorem jOnce_c (w : World) (B : Nat) (A : Option Addr) (c n : Nat) (l : List Tl) (h : Rd w B A c 8 n (tls l)) (hn : n ≤ 1000000) (hok : ∀ t ∈ l, EntOk t.2) :
    Calls Try.prog 15 #[.slice A n c] w fun x w' => x = .returned (.bool (once (l.map (·.2)))) ∧ Below w.heap.size w w' := by
  have HL := Lib.hid h.tlen
  have R0 := Lib.hid (h.tight.past ((Below.refl _ _).alloc (Nat.le_refl _) (.map #[] 0))).tight
  have HO := Lib.hid hok
  have M0 := Lib.hid (Mk.made w)
  have b0 := Lib.hid ((Below.refl w.heap.size w).alloc (Nat.le_refl _) (.map #[] 0))
  have s0 := Lib.hid (show (w.alloc (.map #[] 0)).heap.size = w.heap.size + 1 by simp)
  have hmm := @run_makeMap Try.prog
  clear h hok
  go_enter Try.func15, Try.ntmps15
  go_wp2_with fail
  clear hmm
  generalize (w.alloc (.map #[] 0)) = w1 at *
  go_loopw [9] (fun s9 wr => ∃ i : Nat, i ≤ n ∧ s9 = .int .i64 i ∧ Hid (Mk wr w.heap.size (dd (((l.take i).map (·.2)).map bo)) i) ∧ Hid (Below w.heap.size w wr) ∧ Hid (Rd wr wr.heap.size A c 8 n (tls l)))
    (fun s9 _ => n - (intOf s9).toNat)
  case atStart => exact ⟨0, by omega, rfl, M0, b0, R0⟩
  case round =>
    obtain ⟨i, hi, rfl, HM, BL, RW⟩ := hrel
    by_cases hin : i < n
    · obtain ⟨b, o, t, rfl, -, he, hmem, d0, d1, d2, d3, d4, d5, d6, d7⟩ := RW.out.told8 hin
      have HT := Lib.hid (ents_take he bo)
      have HE := Lib.hid (HO.out t hmem)
      have K0 := Blk.newTold wr 32 t
      have b1 := (Below.refl wr.heap.size wr).alloc (Nat.le_refl _) (.cells #[.int .i64 t.1, .int .i64 t.2.fr, .int .i64 t.2.boot, .int .i64 t.2.seq, .int .i64 t.2.ord, .int .i64 t.2.lev, .int .i64 t.2.stamp, .string t.2.data] 32)
      have HX := Lib.hid (And.intro (HM.out.past b1) (And.intro (BL.out.trans (b1.mono BL.out.size)) (RW.out.past b1).tight))
      clear he hmem K0 b1
      have HF := Lib.hid (broadcastJ_c (wr.alloc (.cells #[.int .i64 t.1, .int .i64 t.2.fr, .int .i64 t.2.boot, .int .i64 t.2.seq, .int .i64 t.2.ord, .int .i64 t.2.lev, .int .i64 t.2.stamp, .string t.2.data] 32)) t.2)
      go_wp2_with fail
      refine HF.out.mono ?_
      simp only [ev]
      rintro x w2 ⟨rfl, b2⟩
      obtain ⟨K, hK⟩ : ∃ K, dd (((l.take i).map (·.2)).map bo) = K := ⟨_, rfl⟩
      have HM2 := Lib.hid (show Mk w2 w.heap.size K i by rw [← hK]; exact HX.out.1.past b2)
      have HK := Lib.hid hK
      have BL2 := Lib.hid (HX.out.2.1.trans (b2.mono HX.out.2.1.size))
      have RW2 := Lib.hid (HX.out.2.2.past b2).tight
      clear hK b2 d0 d1 d2 d3 d4 d5 d6 d7 HX HF HM BL RW
      go_wp2_with ((with_reducible show wpList _ _ _ ((⟨none, Op.mapUpdate _ _ _ _, _, _, _, _⟩ : Oper) :: _) _ _); go_must (refine wpList_putK rfl (.tmp 13) (.tmp 16) (.tmp 17) rfl HM2.out (bo_ok HE.out) (by unfold maxLen; omega) rfl rfl rfl ?_))
      intro w3 hM3 hg3
      have HM3 := Lib.hid (show Mk w3 w.heap.size (dd (((l.take (i + 1)).map (·.2)).map bo)) (i + 1) by rw [HT.out, dd_snoc, HK.out]; exact hM3)
      have BL3 := Lib.hid (BL2.out.trans (grown_below hg3 (Nat.le_refl _) BL2.out.size))
      have RW3 := Lib.hid (Rd.farM RW2.out HM2.out hg3)
      clear hM3 hg3 HM2 BL2 RW2
      go_wp2_with fail
      go_roundw
      case rel => exact ⟨i + 1, by omega, by go_num, HM3, BL3, RW3⟩
      case measure => simp [intOf]; omega
    · obtain rfl : i = n := by omega
      have HE := Lib.hid (show l.take i = l by rw [List.take_of_length_le (by rw [HL.out]; omega)])
      have hM := HM.out
      rw [HE.out] at hM
      obtain ⟨D, hD, -, hs⟩ := hM
      have HD := Lib.hid hD
      have HS := Lib.hid hs
      clear hD hs
      go_wp2_with ((with_reducible show wpList _ _ _ ((⟨some 20, Op.call _, _, _, _, _⟩ : Oper) :: _) _ _); go_must (refine wpList_len_own _ rfl (.tmp 19) 45 rfl 30 46 Try.underlying45 _ w.heap.size i D rfl HD.out ?_))
      go_ret
      refine ⟨?_, BL.out⟩
      unfold once
      rw [HS.out, List.length_map, HL.out]
      exact congrArg (fun b => Ending.returned (.bool b)) (ieq _ _)

theorem any_un {c : List Ent} {t : Ent} : (dd (c.map un)).any (fun x => PEnt.eqE x (un t)) = c.any (fun x => mt x t) := by
  rw [dd_any, List.any_map]
  congr 1
  funext x
  exact un_eq x t
theorem all_step {l : List Tl} {i : Nat} {t : Tl} (he : l[i]? = some t) (p : Ent → Bool) (h : ((l.take i).map (·.2)).all p = true) (hp : p t.2 = true) : ((l.take (i + 1)).map (·.2)).all p = true := by
  obtain ⟨hi, rfl⟩ := List.getElem?_eq_some_iff.1 he
  rw [← List.take_append_getElem hi, List.map_append, List.all_append, h]
  simp [hp]
theorem all_not {l : List Tl} {t : Tl} (he : t ∈ l) (p : Ent → Bool) (hp : p t.2 = false) : (l.map (·.2)).all p = false := by
  rw [List.all_eq_false]
  exact ⟨t.2, List.mem_map_of_mem he, by rw [hp]; decide⟩

set_option maxHeartbeats 4000000 in
set_option maxRecDepth 100000 in
theorem jCast_c (w : World) (B B2 : Nat) (A A2 : Option Addr) (c c2 n n2 : Nat) (l : List Tl) (m : List Ent) (h : Rd w B A c 8 n (tls l)) (h2 : Rd w B2 A2 c2 7 n2 (els m)) (hn : n ≤ 1000000) (hn2 : n2 ≤ 1000000) (hok : ∀ t ∈ l, EntOk t.2) (hok2 : ∀ e ∈ m, EntOk e) :
    Calls Try.prog 16 #[.slice A n c, .slice A2 n2 c2] w fun x w' => x = .returned (.bool (cast (l.map (·.2)) m)) ∧ Below w.heap.size w w' := by
  have HL := Lib.hid h.tlen
  have HL2 := Lib.hid h2.elen
  have b0' := (Below.refl w.heap.size w).alloc (Nat.le_refl _) (.map #[] 0)
  have R0 := Lib.hid (h.tight.past b0').tight
  have R2 := Lib.hid (h2.tight.past b0').tight
  have HO := Lib.hid hok
  have HO2 := Lib.hid hok2
  have M0 := Lib.hid (Mk.made w)
  have b0 := Lib.hid b0'
  have hmm := @run_makeMap Try.prog
  clear h h2 hok hok2 b0'
  go_enter Try.func16, Try.ntmps16
  go_wp2_with fail
  clear hmm
  generalize (w.alloc (.map #[] 0)) = w1 at *
  go_loopw [15] (fun s15 wr => ∃ i : Nat, i ≤ n2 ∧ s15 = .int .i64 i ∧ Hid (Mk wr w.heap.size (dd ((m.take i).map un)) i) ∧ Hid (Below w.heap.size w wr) ∧ Hid (Rd wr wr.heap.size A c 8 n (tls l)) ∧ Hid (Rd wr wr.heap.size A2 c2 7 n2 (els m)))
    (fun s15 _ => n2 - (intOf s15).toNat)
  case atStart => exact ⟨0, by omega, rfl, M0, b0, R0, R2⟩
  case round =>
    obtain ⟨i, hi, rfl, HM, BL, RW, RV⟩ := hrel
    clear M0 b0 R0 R2
    by_cases hin : i < n2
    · obtain ⟨b, o, e, rfl, -, he, hmem, d0, d1, d2, d3, d4, d5, d6⟩ := RV.out.ent hin
      have HT := Lib.hid (show (m.take (i + 1)).map un = (m.take i).map un ++ [un e] by rw [take_step he, List.map_append]; rfl)
      have HE := Lib.hid (HO2.out e hmem)
      have b1 := (Below.refl wr.heap.size wr).alloc (Nat.le_refl _) (.cells #[.int .i64 e.fr, .int .i64 e.boot, .int .i64 e.seq, .int .i64 e.ord, .int .i64 e.lev, .int .i64 e.stamp, .string e.data] 30)
      have HX := Lib.hid (And.intro (HM.out.past b1) (And.intro (BL.out.trans (b1.mono BL.out.size)) (And.intro (RW.out.past b1).tight (RV.out.past b1).tight)))
      clear he hmem b1
      have HF := Lib.hid (unstamped_c (wr.alloc (.cells #[.int .i64 e.fr, .int .i64 e.boot, .int .i64 e.seq, .int .i64 e.ord, .int .i64 e.lev, .int .i64 e.stamp, .string e.data] 30)) e)
      go_wp2_with fail
      refine HF.out.mono ?_
      simp only [ev]
      rintro x w2 ⟨rfl, b2⟩
      obtain ⟨K, hK⟩ : ∃ K, dd ((m.take i).map un) = K := ⟨_, rfl⟩
      have HM2 := Lib.hid (show Mk w2 w.heap.size K i by rw [← hK]; exact HX.out.1.past b2)
      have HK := Lib.hid hK
      have BL2 := Lib.hid (HX.out.2.1.trans (b2.mono HX.out.2.1.size))
      have RW2 := Lib.hid (HX.out.2.2.1.past b2).tight
      have RV2 := Lib.hid (HX.out.2.2.2.past b2).tight
      clear hK b2 d0 d1 d2 d3 d4 d5 d6 HX HF HM BL RW RV
      go_wp2_with ((with_reducible show wpList _ _ _ ((⟨none, Op.mapUpdate _ _ _ _, _, _, _, _⟩ : Oper) :: _) _ _); go_must (refine wpList_putK rfl (.tmp 19) (.tmp 21) (.tmp 22) rfl HM2.out (un_ok HE.out) (by unfold maxLen; omega) rfl rfl rfl ?_))
      intro w3 hM3 hg3
      have HM3 := Lib.hid (show Mk w3 w.heap.size (dd ((m.take (i + 1)).map un)) (i + 1) by rw [HT.out, dd_snoc, HK.out]; exact hM3)
      have BL3 := Lib.hid (BL2.out.trans (grown_below hg3 (Nat.le_refl _) BL2.out.size))
      have RW3 := Lib.hid (Rd.farM RW2.out HM2.out hg3)
      have RV3 := Lib.hid (Rd.farM RV2.out HM2.out hg3)
      clear hM3 hg3 HM2 BL2 RW2 RV2
      go_wp2_with fail
      go_roundw
      case rel => exact ⟨i + 1, by omega, by go_num, HM3, BL3, RW3, RV3⟩
      case measure => simp [intOf]; omega
    · obtain rfl : i = n2 := by omega
      have HM' := Lib.hid (show Mk wr w.heap.size (dd (m.map un)) i by have := HM.out; rwa [List.take_of_length_le (by rw [HL2.out]; omega)] at this)
      clear HM RV
      go_wp2_with fail
      generalize wr = w4 at *
      go_loopw [26] (fun s26 wq => ∃ j : Nat, j ≤ n ∧ s26 = .int .i64 j ∧ Hid (Mk wq w.heap.size (dd (m.map un)) i) ∧ Hid (Below w.heap.size w wq) ∧ Hid (Rd wq wq.heap.size A c 8 n (tls l)) ∧ Hid (((l.take j).map (·.2)).all (fun e => m.any fun x => mt x e) = true))
        (fun s26 _ => n - (intOf s26).toNat)
      case atStart => exact ⟨0, by omega, rfl, HM', BL, RW, Lib.hid rfl⟩
      case round =>
        clear HM' BL RW
        obtain ⟨j, hj, rfl, HM, BL, RW, HP⟩ := hrel
        by_cases hjn : j < n
        · obtain ⟨b, o, t, rfl, -, he, hmem, d0, d1, d2, d3, d4, d5, d6, d7⟩ := RW.out.told8 hjn
          have HT := Lib.hid he
          have HT2 := Lib.hid hmem
          have HE := Lib.hid (HO.out t hmem)
          have b1 := (Below.refl wr.heap.size wr).alloc (Nat.le_refl _) (.cells #[.int .i64 t.1, .int .i64 t.2.fr, .int .i64 t.2.boot, .int .i64 t.2.seq, .int .i64 t.2.ord, .int .i64 t.2.lev, .int .i64 t.2.stamp, .string t.2.data] 32)
          have HX := Lib.hid (And.intro (HM.out.past b1) (And.intro (BL.out.trans (b1.mono BL.out.size)) (RW.out.past b1).tight))
          clear he hmem b1
          have HF := Lib.hid (unstamped_c (wr.alloc (.cells #[.int .i64 t.1, .int .i64 t.2.fr, .int .i64 t.2.boot, .int .i64 t.2.seq, .int .i64 t.2.ord, .int .i64 t.2.lev, .int .i64 t.2.stamp, .string t.2.data] 32)) t.2)
          go_wp2_with fail
          refine HF.out.mono ?_
          simp only [ev]
          rintro x w2 ⟨rfl, b2⟩
          have HM2 := Lib.hid (HX.out.1.past b2)
          have BL2 := Lib.hid (HX.out.2.1.trans (b2.mono HX.out.2.1.size))
          have RW2 := Lib.hid (HX.out.2.2.past b2).tight
          have hlook := HM2.out.look (un_ok HE.out)
          rw [any_un] at hlook
          simp only [ev] at hlook
          have b3 := (Below.refl w2.heap.size w2).alloc (Nat.le_refl _) (.cells #[] 46)
          have HY := Lib.hid (And.intro (HM2.out.past b3) (And.intro (BL2.out.trans (b3.mono BL2.out.size)) (RW2.out.past b3).tight))
          clear b2 b3 d0 d1 d2 d3 d4 d5 d6 d7 HX HF HM BL RW HM2 BL2 RW2
          cases hq : m.any (fun x => mt x t.2)
          · rw [hq] at hlook
            have HN := Lib.hid (all_not HT2.out (fun e => m.any fun x => mt x e) hq)
            clear hq
            go_wp2_with fail
            go_ret
            exact ⟨by rw [show cast (l.map (·.2)) m = false from HN.out]; rfl, HY.out.2.1⟩
          · rw [hq] at hlook
            have HN := Lib.hid (all_step HT.out (fun e => m.any fun x => mt x e) HP.out hq)
            clear hq
            go_wp2_with fail
            go_roundw
            case rel => exact ⟨j + 1, by omega, by go_num, Lib.hid HY.out.1, Lib.hid HY.out.2.1, Lib.hid HY.out.2.2, HN⟩
            case measure => simp [intOf]; omega
        · obtain rfl : j = n := by omega
          have HE := Lib.hid (show cast (l.map (·.2)) m = true by have := HP.out; rwa [List.take_of_length_le (by rw [HL.out]; omega)] at this)
          go_wp2_with fail
          go_ret
          exact ⟨by rw [HE.out]; rfl, BL.out⟩
end Go.Proofs.Ytkpgijmpaklfgaa
