/- The walk of NumBack. -/
import Derived.Test.YthafdgnpkfphoaaLaw1A
import Derived.Test.YthafdgnpkfphoaaPlainNumB
import Derived.Test.YthafdgnpkfphoaaKit2
import Derived.Test.YthafdgnpkfphoaaSoft2
namespace Go.Proofs.Ythafdgnpkfphoaa
open Go.RowKit

set_option maxRecDepth 100000 in
set_option maxHeartbeats 2000000 in
theorem NumBack_w (w : World) (A B : Option Addr) (c d n m : Nat) (l r : List Int) (x : Int) (s : ByteArray) (hl : Rd w w.heap.size A c 1 n (bs l)) (hr : Rd w w.heap.size B d 1 m (bs r)) (hbl : isB l) (hbr : isB r)
    (hx1 : -9223372036854775808 ≤ x) (hx2 : x ≤ 9223372036854775807) :
    Calls Try.prog 3 #[.slice A n c, .slice B m d, .int .i64 x, .string s] w fun e w' => e = .returned (.bool true) ∧ Below w.heap.size w w' := by
  have HX := Lib.hid (And.intro hx1 hx2); clear hx1 hx2
  go_enter Try.func3, Try.ntmps3
  go_wp2_with fail
  refine (begun_c w).mono ?_
  rintro e w1 ⟨rfl, hb1⟩
  go_wp2_with fail
  refine (Short_c w1 _ A c n l 20 (hl.past hb1) (by omega)).mono ?_
  rintro e w2 ⟨A1, c1, rfl, rfl, hr1⟩
  have hb1l : isB (l.take (20 : Int).toNat) := hbl.take _
  have hn1 : min n (20 : Int).toNat ≤ 20 := Nat.min_le_right ..
  generalize l.take (20 : Int).toNat = p at *
  generalize min n (20 : Int).toNat = np at *
  go_wp2_with fail
  refine (Short_c w1 _ B d m r 20 (hr.past hb1) (by omega)).mono ?_
  rintro e w2 ⟨A2, c2, rfl, rfl, hr2⟩
  have hb2l : isB (r.take (20 : Int).toNat) := hbr.take _
  have hn2 : min m (20 : Int).toNat ≤ 20 := Nat.min_le_right ..
  generalize r.take (20 : Int).toNat = q at *
  generalize min m (20 : Int).toNat = nq at *
  go_wp2_with fail
  refine (Cut_c w1 s 100 (by omega)).mono ?_
  rintro e w2 ⟨t, rfl, rfl, ht, hts⟩
  clear hts
  clear hl hr hbl hbr
  have hsz1 := hb1.size
  go_wp2_with (at_builtin; go_must (refine wpList_app rfl (.const (.slice none 0 0)) (.tmp 27) _ rfl w1.heap.size 5 _ 1 1 Try.underlying22 byte_info rfl (by omega) _ 0 [] rfl (World.ownsRow_nil _ _ _ _) _ A1 c1 np (bs p) rfl hr1 (bs_one p) (by unfold maxLen; omega) (by omega) (Nat.le_refl _) ?_))
  intro A3 c3 w3 hown3 hg3 hb3
  have hr3 : Rd w3 w3.heap.size A3 c3 1 np (bs p) := by have := Rd.of_own hown3; simpa using this
  have hsz3 := hb3.size
  go_wp2_with fail
  refine (Put_c w3 _ A3 c3 np p x hr3 (by omega) HX.out.1 HX.out.2).mono ?_
  rintro e w4 ⟨A4, c4, rfl, hown4, hb4⟩
  have hr4 := Rd.of_own hown4
  have hsz4 := hb4.size
  have hr1' : Rd w4 w4.heap.size A1 c1 1 np (bs p) := ((hr1.past hb3).past hb4).tight
  go_wp2_with (at_builtin; go_must (refine wpList_app rfl (.const (.slice none 0 0)) (.tmp 31) _ rfl w4.heap.size 5 _ 1 1 Try.underlying22 byte_info rfl (by omega) _ 0 [] rfl (World.ownsRow_nil _ _ _ _) _ A1 c1 np (bs p) rfl hr1' (bs_one p) (by unfold maxLen; omega) (by omega) (Nat.le_refl _) ?_))
  intro A5 c5 w5 hown5 hg5 hb5
  have hr5 : Rd w5 w5.heap.size A5 c5 1 np (bs p) := by have := Rd.of_own hown5; simpa using this
  have hsz5 := hb5.size
  go_wp2_with fail
  refine (PutText_c w5 _ A5 c5 np p t hr5 (by omega) (by omega)).mono ?_
  rintro e w6 ⟨A6, c6, rfl, hown6, hb6⟩
  have hr6 := Rd.of_own hown6
  have hsz6 := hb6.size
  have hr4' : Rd w6 w6.heap.size A4 c4 1 (np + (PNum.sev (PNum.zig x)).length) (bs (p ++ PNum.sev (PNum.zig x))) := ((hr4.past hb5).past hb6).tight
  have hr1'' : Rd w6 w6.heap.size A1 c1 1 np (bs p) := ((hr1'.past hb5).past hb6).tight
  have hr2' : Rd w6 w6.heap.size A2 c2 1 nq (bs q) := ((((hr2.past hb3).past hb4).past hb5).past hb6).tight
  have hBel : Below w.heap.size w w6 := hb1.trans ((hb3.trans ((hb4.mono hsz3).trans ((hb5.mono (by omega)).trans (hb6.mono (by omega))))).mono hsz1)
  clear hr1 hr1' hr2 hr3 hr4 hr5 hown3 hown4 hown5 hown6 hg3 hg5 hb1 hb3 hb4 hb5 hb6
  clear hsz1 hsz3 hsz4 hsz5 hsz6
  go_wp2_with fail
  have hpl := hr1''.blen
  have hu10 := PNum.sev_ten _ (PNum.zig_lt x HX.out.1 HX.out.2)
  have hv10 := PNum.sev_ten _ (PNum.zig_lt (t.size : Int) (by omega) (by omega))
  generalize hu : PNum.sev (PNum.zig x) = u at *
  generalize hv : PNum.sev (PNum.zig (t.size : Int)) = v at *
  refine wp_region_soft (by kernel_rfl) (postOf [
      .inl (.slice A4 (np + u.length) c4), .inl (.string (strOfNums (p ++ u))), .inl (.slice A1 np c1), .inl (.string (strOfNums p)), .inl (.int .i64 x), .inr (bytesL u), .inl (.string (strOfNums u)), .inl (.string (strOfNums (p ++ u))), .inl (.bool false), .inl (.bool false),
      .inl (.slice A6 (np + v.length + t.size) c6), .inl (.string (strOfNums (p ++ v ++ sb t))), .inl (.slice A1 np c1), .inl (.string (strOfNums p)), .inl (.string t), .inr (bytesL (v ++ sb t)), .inl (.string (strOfNums (v ++ sb t))), .inl (.string (strOfNums (p ++ v ++ sb t))), .inl (.bool false), .inl (.bool false)])
    (by kernel_rfl) (postOf_lasts _) ?_ ?_
  · refine opsOk_cons ?_ ?_
    · intro a w hb hdep hold
      refine ok_run (v := .slice A4 (np + u.length) c4) (wanted_free rfl) ?_ (Below.refl _ _) rfl
      rw [run_move]
      exact congrArg (fun u => Result.ok (Next.value u) w) (hold 10 (by kernel_rfl))
    refine opsOk_cons ?_ ?_
    · intro a w hb hdep hold
      have e : a.tmps.getD 35 undef = _ := (hdep ⟨0, .data⟩ (by simp) rfl 35 rfl).2
      refine ok_run (v := .string (strOfNums (p ++ u))) (wanted_free rfl) (run_convert _ _ _ _ _ _ _ _ _ ?_) (Below.refl _ _) rfl
      show (convert _ _ (a.tmps.getD 35 undef)).run _ _ = _
      rw [e]
      exact run_toStr _ _ 5 (hr4'.past hb) Try.underlying22 Try.underlying5 Try.underlying9
    refine opsOk_cons ?_ ?_
    · intro a w hb hdep hold
      refine ok_run (v := .slice A1 np c1) (wanted_free rfl) ?_ (Below.refl _ _) rfl
      rw [run_move]
      exact congrArg (fun u => Result.ok (Next.value u) w) (hold 0 (by kernel_rfl))
    refine opsOk_cons ?_ ?_
    · intro a w hb hdep hold
      have e : a.tmps.getD 37 undef = _ := (hdep ⟨2, .data⟩ (by simp) rfl 37 rfl).2
      refine ok_run (v := .string (strOfNums p)) (wanted_free rfl) (run_convert _ _ _ _ _ _ _ _ _ ?_) (Below.refl _ _) rfl
      show (convert _ _ (a.tmps.getD 37 undef)).run _ _ = _
      rw [e]
      exact run_toStr _ _ 5 (hr1''.past hb) Try.underlying22 Try.underlying5 Try.underlying9
    refine opsOk_cons ?_ ?_
    · intro a w hb hdep hold
      refine ok_run (v := .int .i64 x) (wanted_free rfl) ?_ (Below.refl _ _) rfl
      rw [run_move]
      exact congrArg (fun u => Result.ok (Next.value u) w) (hold 2 (by kernel_rfl))
    refine opsOk_cons ?_ ?_
    · intro a w hb hdep hold
      have e : a.tmps.getD 39 undef = _ := (hdep ⟨4, .data⟩ (by simp) rfl 39 rfl).2
      refine ok_call (f := 13) (args := #[.int .i64 x]) (wanted_free rfl) ?_ ?_
      · rw [run_callf _ _ _ _ _ _ _ _ _ Try.func13 (by kernel_rfl) (by kernel_rfl)]
        simp only [List.map_toArray, List.map_cons, List.map_nil]
        exact congrArg (fun u => Result.ok (Next.enter 13 #[u]) w) e
      · refine (rPut_c w x HX.out.1 HX.out.2).mono ?_
        rw [hu]
        rintro e w' ⟨A', c', rfl, hown, hbel⟩
        exact ⟨_, rfl, ⟨A', c', rfl, Rd.of_own hown⟩, hbel⟩
    refine opsOk_cons ?_ ?_
    · intro a w hb hdep hold
      obtain ⟨A', c', e, hr⟩ : (bytesL _).p (a.tmps.getD 40 undef) w := (hdep ⟨5, .data⟩ (by simp) rfl 40 rfl).2
      refine ok_run (v := .string (strOfNums u)) (wanted_free rfl) (run_convert _ _ _ _ _ _ _ _ _ ?_) (Below.refl _ _) rfl
      show (convert _ _ (a.tmps.getD 40 undef)).run _ _ = _
      rw [e]
      exact run_toStr _ _ 5 hr Try.underlying22 Try.underlying5 Try.underlying9
    refine opsOk_cons ?_ ?_
    · intro a w hb hdep hold
      have e1 : a.tmps.getD 38 undef = _ := (hdep ⟨3, .data⟩ (by simp) rfl 38 rfl).2
      have e2 : a.tmps.getD 41 undef = _ := (hdep ⟨6, .data⟩ (by simp) rfl 41 rfl).2
      refine ok_run (v := .string (strOfNums (p ++ u))) (wanted_free rfl) ?_ (Below.refl _ _) rfl
      rw [run_str_add _ _ _ _ _ _ _ _ _ _ e1 e2 (by rw [str_size, str_size]; omega), str_append]
    refine opsOk_cons ?_ ?_
    · intro a w hb hdep hold
      have e1 : a.tmps.getD 36 undef = _ := (hdep ⟨1, .data⟩ (by simp) rfl 36 rfl).2
      have e2 : a.tmps.getD 42 undef = _ := (hdep ⟨7, .data⟩ (by simp) rfl 42 rfl).2
      refine ok_run (v := .bool false) (wanted_free rfl) ?_ (Below.refl _ _) rfl
      rw [run_str_neq _ _ _ _ _ _ _ _ _ _ e1 e2]
      simp
    refine opsOk_cons ?_ ?_
    · intro a w hb hdep hold
      have e : a.tmps.getD 43 undef = _ := (hdep ⟨8, .data⟩ (by simp) rfl 43 rfl).2
      refine ok_run (v := .bool false) (wanted_free rfl) ?_ (Below.refl _ _) rfl
      rw [run_move]
      exact congrArg (fun u => Result.ok (Next.value u) w) e
    refine opsOk_cons ?_ ?_
    · intro a w hb hdep hold
      have hg : a.tmps[44]? = some (.bool false) := by
        have h := hdep ⟨9, .guard⟩ (by simp) rfl 44 rfl
        rw [h.1]; exact congrArg some h.2
      refine ok_run (v := .slice A6 (np + v.length + t.size) c6) (wanted_yes rfl rfl hg) ?_ (Below.refl _ _) rfl
      rw [run_move]
      exact congrArg (fun u => Result.ok (Next.value u) w) (hold 11 (by kernel_rfl))
    refine opsOk_cons ?_ ?_
    · intro a w hb hdep hold
      have hg : a.tmps[44]? = some (.bool false) := by
        have h := hdep ⟨9, .guard⟩ (by simp) rfl 44 rfl
        rw [h.1]; exact congrArg some h.2
      have e : a.tmps.getD 45 undef = _ := (hdep ⟨10, .data⟩ (by simp) rfl 45 rfl).2
      refine ok_run (v := .string (strOfNums (p ++ v ++ sb t))) (wanted_yes rfl rfl hg) (run_convert _ _ _ _ _ _ _ _ _ ?_) (Below.refl _ _) rfl
      show (convert _ _ (a.tmps.getD 45 undef)).run _ _ = _
      rw [e]
      exact run_toStr _ _ 5 (hr6.past hb) Try.underlying22 Try.underlying5 Try.underlying9
    refine opsOk_cons ?_ ?_
    · intro a w hb hdep hold
      have hg : a.tmps[44]? = some (.bool false) := by
        have h := hdep ⟨9, .guard⟩ (by simp) rfl 44 rfl
        rw [h.1]; exact congrArg some h.2
      refine ok_run (v := .slice A1 np c1) (wanted_yes rfl rfl hg) ?_ (Below.refl _ _) rfl
      rw [run_move]
      exact congrArg (fun u => Result.ok (Next.value u) w) (hold 0 (by kernel_rfl))
    refine opsOk_cons ?_ ?_
    · intro a w hb hdep hold
      have hg : a.tmps[44]? = some (.bool false) := by
        have h := hdep ⟨9, .guard⟩ (by simp) rfl 44 rfl
        rw [h.1]; exact congrArg some h.2
      have e : a.tmps.getD 47 undef = _ := (hdep ⟨12, .data⟩ (by simp) rfl 47 rfl).2
      refine ok_run (v := .string (strOfNums p)) (wanted_yes rfl rfl hg) (run_convert _ _ _ _ _ _ _ _ _ ?_) (Below.refl _ _) rfl
      show (convert _ _ (a.tmps.getD 47 undef)).run _ _ = _
      rw [e]
      exact run_toStr _ _ 5 (hr1''.past hb) Try.underlying22 Try.underlying5 Try.underlying9
    refine opsOk_cons ?_ ?_
    · intro a w hb hdep hold
      have hg : a.tmps[44]? = some (.bool false) := by
        have h := hdep ⟨9, .guard⟩ (by simp) rfl 44 rfl
        rw [h.1]; exact congrArg some h.2
      refine ok_run (v := .string t) (wanted_yes rfl rfl hg) ?_ (Below.refl _ _) rfl
      rw [run_move]
      exact congrArg (fun u => Result.ok (Next.value u) w) (hold 3 (by kernel_rfl))
    refine opsOk_cons ?_ ?_
    · intro a w hb hdep hold
      have hg : a.tmps[44]? = some (.bool false) := by
        have h := hdep ⟨9, .guard⟩ (by simp) rfl 44 rfl
        rw [h.1]; exact congrArg some h.2
      have e : a.tmps.getD 49 undef = _ := (hdep ⟨14, .data⟩ (by simp) rfl 49 rfl).2
      refine ok_call (f := 14) (args := #[.string t]) (wanted_yes rfl rfl hg) ?_ ?_
      · rw [run_callf _ _ _ _ _ _ _ _ _ Try.func14 (by kernel_rfl) (by kernel_rfl)]
        simp only [List.map_toArray, List.map_cons, List.map_nil]
        exact congrArg (fun u => Result.ok (Next.enter 14 #[u]) w) e
      · refine (rPutText_c w t (by omega)).mono ?_
        rw [hv]
        rintro e w' ⟨A', c', rfl, hown, hbel⟩
        have hlen : v.length + t.size = (v ++ sb t).length := by rw [List.length_append, sb_length]
        rw [hlen] at hown ⊢
        exact ⟨_, rfl, ⟨A', c', rfl, Rd.of_own hown⟩, hbel⟩
    refine opsOk_cons ?_ ?_
    · intro a w hb hdep hold
      have hg : a.tmps[44]? = some (.bool false) := by
        have h := hdep ⟨9, .guard⟩ (by simp) rfl 44 rfl
        rw [h.1]; exact congrArg some h.2
      obtain ⟨A', c', e, hr⟩ : (bytesL _).p (a.tmps.getD 50 undef) w := (hdep ⟨15, .data⟩ (by simp) rfl 50 rfl).2
      refine ok_run (v := .string (strOfNums (v ++ sb t))) (wanted_yes rfl rfl hg) (run_convert _ _ _ _ _ _ _ _ _ ?_) (Below.refl _ _) rfl
      show (convert _ _ (a.tmps.getD 50 undef)).run _ _ = _
      rw [e]
      exact run_toStr _ _ 5 hr Try.underlying22 Try.underlying5 Try.underlying9
    refine opsOk_cons ?_ ?_
    · intro a w hb hdep hold
      have hg : a.tmps[44]? = some (.bool false) := by
        have h := hdep ⟨9, .guard⟩ (by simp) rfl 44 rfl
        rw [h.1]; exact congrArg some h.2
      have e1 : a.tmps.getD 48 undef = _ := (hdep ⟨13, .data⟩ (by simp) rfl 48 rfl).2
      have e2 : a.tmps.getD 51 undef = _ := (hdep ⟨16, .data⟩ (by simp) rfl 51 rfl).2
      refine ok_run (v := .string (strOfNums (p ++ v ++ sb t))) (wanted_yes rfl rfl hg) ?_ (Below.refl _ _) rfl
      rw [run_str_add _ _ _ _ _ _ _ _ _ _ e1 e2 (by rw [str_size, str_size, List.length_append, sb_length]; omega), str_append, List.append_assoc]
    refine opsOk_cons ?_ ?_
    · intro a w hb hdep hold
      have hg : a.tmps[44]? = some (.bool false) := by
        have h := hdep ⟨9, .guard⟩ (by simp) rfl 44 rfl
        rw [h.1]; exact congrArg some h.2
      have e1 : a.tmps.getD 46 undef = _ := (hdep ⟨11, .data⟩ (by simp) rfl 46 rfl).2
      have e2 : a.tmps.getD 52 undef = _ := (hdep ⟨17, .data⟩ (by simp) rfl 52 rfl).2
      refine ok_run (v := .bool false) (wanted_yes rfl rfl hg) ?_ (Below.refl _ _) rfl
      rw [run_str_neq _ _ _ _ _ _ _ _ _ _ e1 e2]
      simp
    refine opsOk_cons ?_ ?_
    · intro a w hb hdep hold
      have e1 : a.tmps.getD 44 undef = _ := (hdep ⟨9, .data⟩ (by simp) rfl 44 rfl).2
      have e2 : a.tmps.getD 53 undef = _ := (hdep ⟨18, .data⟩ (by simp) rfl 53 rfl).2
      refine ok_run (v := .bool false) (wanted_free rfl) ?_ (Below.refl _ _) rfl
      rw [run_pick _ _ _ _ _ _ _ _ _ e1]
      exact congrArg (fun u => Result.ok (Next.value u) w) e2
    exact opsOk_nil
  · intro vs w7 hb7 hf
    obtain ⟨v0, vs0, rfl, p0, hf0⟩ := fits_cons hf
    clear hf
    obtain rfl : v0 = _ := p0 (by simp)
    clear p0
    obtain ⟨v1, vs1, rfl, p1, hf1⟩ := fits_cons hf0
    clear hf0
    obtain rfl : v1 = _ := p1 (by simp)
    clear p1
    obtain ⟨v2, vs2, rfl, p2, hf2⟩ := fits_cons hf1
    clear hf1
    obtain rfl : v2 = _ := p2 (by simp)
    clear p2
    obtain ⟨v3, vs3, rfl, p3, hf3⟩ := fits_cons hf2
    clear hf2
    obtain rfl : v3 = _ := p3 (by simp)
    clear p3
    obtain ⟨v4, vs4, rfl, p4, hf4⟩ := fits_cons hf3
    clear hf3
    obtain rfl : v4 = _ := p4 (by simp)
    clear p4
    obtain ⟨v5, vs5, rfl, p5, hf5⟩ := fits_cons hf4
    clear hf4
    clear p5
    obtain ⟨v6, vs6, rfl, p6, hf6⟩ := fits_cons hf5
    clear hf5
    obtain rfl : v6 = _ := p6 (by simp)
    clear p6
    obtain ⟨v7, vs7, rfl, p7, hf7⟩ := fits_cons hf6
    clear hf6
    obtain rfl : v7 = _ := p7 (by simp)
    clear p7
    obtain ⟨v8, vs8, rfl, p8, hf8⟩ := fits_cons hf7
    clear hf7
    obtain rfl : v8 = _ := p8 (by simp)
    clear p8
    obtain ⟨v9, vs9, rfl, p9, hf9⟩ := fits_cons hf8
    clear hf8
    obtain rfl : v9 = _ := p9 (by simp)
    clear p9
    obtain ⟨v10, vs10, rfl, p10, hf10⟩ := fits_cons hf9
    clear hf9
    obtain rfl : v10 = _ := p10 (by simp)
    clear p10
    obtain ⟨v11, vs11, rfl, p11, hf11⟩ := fits_cons hf10
    clear hf10
    obtain rfl : v11 = _ := p11 (by simp)
    clear p11
    obtain ⟨v12, vs12, rfl, p12, hf12⟩ := fits_cons hf11
    clear hf11
    obtain rfl : v12 = _ := p12 (by simp)
    clear p12
    obtain ⟨v13, vs13, rfl, p13, hf13⟩ := fits_cons hf12
    clear hf12
    obtain rfl : v13 = _ := p13 (by simp)
    clear p13
    obtain ⟨v14, vs14, rfl, p14, hf14⟩ := fits_cons hf13
    clear hf13
    obtain rfl : v14 = _ := p14 (by simp)
    clear p14
    obtain ⟨v15, vs15, rfl, p15, hf15⟩ := fits_cons hf14
    clear hf14
    clear p15
    obtain ⟨v16, vs16, rfl, p16, hf16⟩ := fits_cons hf15
    clear hf15
    obtain rfl : v16 = _ := p16 (by simp)
    clear p16
    obtain ⟨v17, vs17, rfl, p17, hf17⟩ := fits_cons hf16
    clear hf16
    obtain rfl : v17 = _ := p17 (by simp)
    clear p17
    obtain ⟨v18, vs18, rfl, p18, hf18⟩ := fits_cons hf17
    clear hf17
    obtain rfl : v18 = _ := p18 (by simp)
    clear p18
    obtain ⟨v19, vs19, rfl, p19, hf19⟩ := fits_cons hf18
    clear hf18
    obtain rfl : v19 = _ := p19 (by simp)
    clear p19
    obtain rfl := fits_nil hf19
    clear hf19
    have hr4 := hr4'.past hb7
    have hr6' := hr6.past hb7
    have hr2 := hr2'.past hb7
    have hB := hBel.trans (hb7.mono hBel.size)
    have hsz7 := hb7.size
    clear hr4' hr6 hr1'' hr2' hb7 hBel
    simp only [putAll, Act.put, List.setIfInBounds_toArray, List.set_cons_succ, List.set_cons_zero, Exit.then]
    have HU := Lib.hid hu; clear hu
    have HV := Lib.hid hv; clear hv
    have HPL := Lib.hid hpl; clear hpl
    have gB : PNum.getB 0 0 (u ++ q) = (x, (u.length : Int), 0) := by have := PNum.getB_put x q HX.out.1 HX.out.2; rw [HU.out] at this; exact this
    have gT : PNum.getT (v ++ sb t ++ q) = (sb t, (v.length : Int) + t.size, 0) := by
      have := PNum.getT_put t.size (sb t) q (sb_length t) (by omega); rw [HV.out] at this; exact this
    have hBu : isB u := by have := isB_sev (PNum.zig x); rw [HU.out] at this; exact this
    have hBv : isB v := by have := isB_sev (PNum.zig (t.size : Int)); rw [HV.out] at this; exact this
    have GB := Lib.hid gB; clear gB
    have GT := Lib.hid gT; clear gT
    have hql := hr2.blen
    have HQL := Lib.hid hql; clear hql
    have q3 : strOfNums (sb t) = t := str_sb t
    have hszB := hB.size
    go_wp2_with (with_reducible show wpList _ _ _ ((⟨some 59, Op.slice 22 _ _ _ _, _, _, _, _⟩ : Oper) :: _) _ _
                 go_must (refine wpList_cutI rfl 22 (.tmp 56) _ _ rfl 5 _ 1 1 Try.underlying22 byte_info _ A4 c4 (np + u.length) _ rfl hr4 np (np + u.length) _ 0 (.inr ⟨rfl, rfl⟩) (.inl ⟨rfl, rfl⟩) (by omega) (by omega) ?_))
    intro A7 c7 hr7
    rw [← bs_drop, ← bs_take, ← HPL.out, List.drop_left, List.take_length] at hr7
    clear hr4
    go_wp2_with (at_builtin; go_must (refine wpList_app rfl (.const (.slice none 0 0)) (.tmp 59) _ rfl w7.heap.size 5 _ 1 1 Try.underlying22 byte_info rfl (by omega) _ 0 [] rfl (World.ownsRow_nil _ _ _ _) _ A7 c7 u.length (bs u) rfl hr7 (bs_one u) (by unfold maxLen; omega) (by omega) (Nat.le_refl _) ?_))
    intro A8 c8 w8 hown8 hg8 hb8
    have hown8' : w8.ownsRow w7.heap.size 5 1 (.slice A8 u.length c8) u.length (bs u) := by simpa using hown8
    clear hown8
    have hr2 := hr2.past hb8
    have hr6 := hr6'.past hb8
    have hsz8 := hb8.size
    clear hr6' hr7
    go_wp2_with (at_builtin; go_must (refine wpList_app rfl (.tmp 60) (.tmp 61) _ rfl w7.heap.size 5 _ 1 1 Try.underlying22 byte_info rfl (by omega) (.slice A8 u.length c8) u.length (bs u) rfl hown8' _ A2 c2 nq (bs q) rfl hr2 (bs_one q) (by unfold maxLen; omega) (by omega) (by omega) ?_))
    intro A9 c9 w9 hown9 hg9 hb9
    have hr9 : Rd w9 w9.heap.size A9 c9 1 (u.length + nq) (bs (u ++ q)) := by rw [bs_append]; exact Rd.of_own hown9
    have hb9' : Below w.heap.size w w9 := hB.trans ((hb8.trans hb9).mono hszB)
    have hsz9 := hb9'.size
    have hr2' : Rd w9 w9.heap.size A2 c2 1 nq (bs q) := ((hr2.below ((hb9.mono (by omega : w6.heap.size ≤ w7.heap.size)))).tight)
    have hr6' : Rd w9 w9.heap.size A6 c6 1 (np + v.length + t.size) (bs (p ++ v ++ sb t)) := ((hr6.below ((hb9.mono (by omega : w6.heap.size ≤ w7.heap.size)))).tight)
    clear hown8' hr2 hr6 hb8 hb9 hg8 hg9 hown9 hB
    go_wp2_with fail
    refine (Get_c w9 _ A9 c9 (u.length + nq) _ hr9 (hBu.append hb2l)).mono ?_
    rintro e w10 ⟨rfl, rfl⟩
    rw [GB.out]
    simp only [tup3]
    clear hr9
    go_wp2_with (with_reducible show wpList _ _ _ ((⟨some 71, Op.slice 22 _ _ _ _, _, _, _, _⟩ : Oper) :: _) _ _
                 go_must (refine wpList_cutI rfl 22 (.tmp 68) _ _ rfl 5 _ 1 1 Try.underlying22 byte_info _ A6 c6 (np + v.length + t.size) _ rfl hr6' np (np + v.length + t.size) _ 0 (.inr ⟨rfl, rfl⟩) (.inl ⟨rfl, rfl⟩) (by omega) (by omega) ?_))
    intro A10 c10 hr10
    have el : np + v.length + t.size - np = v.length + t.size := by omega
    have hr11 : Rd w9 w9.heap.size A10 c10 1 (v.length + t.size) (bs (v ++ sb t)) := by
      rw [el, ← bs_drop, ← bs_take, ← HPL.out, List.drop_left, List.take_of_length_le (by rw [List.length_append, sb_length]; omega)] at hr10
      exact hr10
    clear hr10 hr6'
    try rw [el]
    clear el
    have hlv : (v ++ sb t).length = v.length + t.size := by rw [List.length_append, sb_length]
    have HLV := Lib.hid hlv; clear hlv
    go_wp2_with (at_builtin; go_must (refine wpList_app rfl (.const (.slice none 0 0)) (.tmp 71) _ rfl w9.heap.size 5 _ 1 1 Try.underlying22 byte_info rfl (by omega) _ 0 [] rfl (World.ownsRow_nil _ _ _ _) _ A10 c10 (v.length + t.size) (bs (v ++ sb t)) rfl hr11 (bs_one _) (by unfold maxLen; omega) (by omega) (Nat.le_refl _) ?_))
    intro A11 c11 w11 hown11 hg11 hb11
    have hown11' : w11.ownsRow w9.heap.size 5 1 (.slice A11 (v.length + t.size) c11) (v.length + t.size) (bs (v ++ sb t)) := by simpa using hown11
    clear hown11
    have hr2 := hr2'.past hb11
    have hsz11 := hb11.size
    clear hr2' hr11
    go_wp2_with (at_builtin; go_must (refine wpList_app rfl (.tmp 72) (.tmp 73) _ rfl w9.heap.size 5 _ 1 1 Try.underlying22 byte_info rfl (by omega) (.slice A11 (v.length + t.size) c11) (v.length + t.size) (bs (v ++ sb t)) rfl hown11' _ A2 c2 nq (bs q) rfl hr2 (bs_one q) (by unfold maxLen; omega) (by omega) (by omega) ?_))
    intro A12 c12 w12 hown12 hg12 hb12
    have hr12 : Rd w12 w12.heap.size A12 c12 1 (v.length + t.size + nq) (bs (v ++ sb t ++ q)) := by rw [bs_append (v ++ sb t)]; exact Rd.of_own hown12
    have hb12' : Below w.heap.size w w12 := hb9'.trans ((hb11.trans hb12).mono hsz9)
    clear hown11' hr2 hb11 hb12 hg11 hg12 hown12 hb9'
    go_wp2_with fail
    refine (GetText_c w12 _ A12 c12 (v.length + t.size + nq) _ hr12 ((hBv.append (sb_isB t)).append hb2l) (by omega)).mono ?_
    rintro e w13 ⟨rfl, rfl⟩
    rw [GT.out]
    simp only [tupT, q3]
    clear hr12 q3
    have e1 : ((np : Int) + (u.length : Int) - (np : Int)) = (u.length : Int) := by omega
    have e2 : ((np : Int) + (v.length : Int) + (t.size : Int) - (np : Int)) = (v.length : Int) + (t.size : Int) := by omega
    have e3 : ((u.length : Int) == (u.length : Int)) = true := by simp
    have e4 : (((v.length : Int) + (t.size : Int)) == ((v.length : Int) + (t.size : Int))) = true := by simp
    go_wp2_with fail
    go_ret
    exact ⟨rfl, hb12'⟩

end Go.Proofs.Ythafdgnpkfphoaa
