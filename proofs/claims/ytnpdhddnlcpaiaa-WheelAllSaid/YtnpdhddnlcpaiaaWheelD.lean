/- Contracts of package wheel: due. -/
import Derived.Test.YtnpdhddnlcpaiaaWheelC
namespace Go.Proofs.Ytnpdhddnlcpaiaa
open Go.RowKit

theorem off_eq {T : List (Int × Bool)} {now : Int} {k : Nat} {x : Int} {b : Bool} (h : PWheel.tm T k = (x, b)) : PWheel.off T now k = (b && decide (x ≤ now)) := by simp [PWheel.off, h]
theorem due_in {T : List (Int × Bool)} {now : Int} {k : Nat} (h : PWheel.off T now k = true) : PWheel.due T now (k + 1) = PWheel.due T now k ++ [(k : Int)] := by simp [PWheel.due, h]
theorem due_out {T : List (Int × Bool)} {now : Int} {k : Nat} (h : PWheel.off T now k = false) : PWheel.due T now (k + 1) = PWheel.due T now k := by simp [PWheel.due, h]

/-- What due leaves: the row, sorted. -/
def Due (w : World) (T : List (Int × Bool)) (now : Int) (e : Ending) (w' : World) : Prop :=
  ∃ (A : Option Addr) (n c : Nat) (M : List Int), e = .returned (.slice A n c) ∧ n = M.length ∧ M.Perm (PWheel.due T now 64) ∧ M.Pairwise (PSort.lt (PWheel.key T)) ∧ w'.ownsRow w.heap.size 3 1 (.slice A n c) n (is M) ∧ Below w.heap.size w w'

set_option maxHeartbeats 1600000 in
set_option maxRecDepth 100000 in
theorem due_c (w : World) (g : Nat) (now : Int) (T : List (Int × Bool)) (h : Wl w g now T) :
    Calls Try.prog 21 #[.pointer (some ⟨g, 0, none⟩)] w (Due w T now) := by
  have hI := h.info
  have N1 : Blk _ _ 24 [.pointer (some ⟨g, 0, none⟩)] := Blk.new w #[.pointer (some ⟨g, 0, none⟩)] 24
  have hb1 : Below w.heap.size w (w.alloc (.cells #[.pointer (some ⟨g, 0, none⟩)] 24)) := (Below.refl _ _).alloc (Nat.le_refl _) _
  have h1 := h.past hb1
  have hg := h.lt
  have hs1 : (w.alloc (.cells #[.pointer (some ⟨g, 0, none⟩)] 24)).heap.size = w.heap.size + 1 := by simp
  have HT := Lib.hid (And.intro h.1 (And.intro h1.range hI))
  have HB1 := Lib.hid hb1
  clear hI hb1 h
  go_enter Try.func21, Try.ntmps21
  go_wp2_with (with_reducible show wpList _ _ _ ((⟨some 9, Op.load 51 _, _, _, _, _⟩ : Oper) :: _) _ _
               go_must (refine wpList_load_mid rfl 51 (.tmp 8) rfl g 1 rfl (T.flatMap tc) _ HT.out.2.1 arr_under rfl HT.out.2.2 ?_))
  have H0 : Hid ((w.alloc (.cells #[.pointer (some ⟨g, 0, none⟩)] 24)).ownsRow (w.heap.size + 1) 3 1 (.slice none 0 0) 0 (is [])) := Lib.hid ⟨rfl, .inl ⟨rfl, rfl⟩⟩
  generalize w.alloc (.cells #[.pointer (some ⟨g, 0, none⟩)] 24) = w1 at *
  have N1' := Lib.hid N1
  have h1' := Lib.hid h1
  clear N1 h1
  go_loopw [3, 10] (fun s3 s10 wr => ∃ (k : Nat) (A : Option Addr) (n c : Nat), k ≤ 64 ∧ s10 = .int .i64 k ∧ s3 = .slice A n c ∧ n ≤ 64 ∧ Hid (wr.ownsRow (w.heap.size + 1) 3 1 (.slice A n c) n (is (PWheel.due T now k))) ∧ Hid (Below (w.heap.size + 1) w1 wr)) (fun _ s10 _ => 64 - (intOf s10).toNat)
  case atStart => exact ⟨0, none, 0, 0, by omega, rfl, rfl, by omega, H0, Lib.hid (Below.refl _ _)⟩
  case round =>
    clear H0
    obtain ⟨k, A, n, c, hk, rfl, rfl, hn, hO, hB⟩ := hrel
    have NB := N1'.out.below hB.out (Nat.lt_succ_self _)
    have WB : Wl wr g now T := ⟨HT.out.1, h1'.out.2.below hB.out (by omega)⟩
    have qg : g < wr.heap.size := WB.lt
    have qB : w.heap.size < wr.heap.size := NB.lt
    have hnl := Lib.hid (show n = (PWheel.due T now k).length by have := hO.out.1; rw [is_length] at this; omega)
    by_cases hlt : k < 64
    · obtain ⟨t1, t2⟩ := tc_at T k (by rw [HT.out.1]; exact hlt)
      have hl := PWheel.due_len T now k
      have ho := @off_eq T now k
      generalize PWheel.tm T k = t at *
      obtain ⟨x, b⟩ := t
      have HN := Lib.hid (And.intro (ho rfl) (And.intro t1 t2))
      have hl64 : n < 64 := by rw [hnl.out]; omega
      clear t1 t2 ho hl
      have c0 := NB.cell (i := 0) rfl
      have cn := WB.tick
      have hB2 := Lib.hid (hB.out.alloc (by rw [← hs1]; exact hB.out.size) (.cells #[.int .i64 x, .bool b] 50))
      have hO2 := Lib.hid (hO.out.alloc (.cells #[.int .i64 x, .bool b] 50))
      have hsz : w.heap.size + 1 ≤ wr.heap.size := by omega
      cases b
      · have e := due_out (T := T) (now := now) (k := k) (by rw [HN.out.1]; rfl)
        have HE := Lib.hid e
        clear e
        go_wp2_with (with_reducible show wpList _ _ _ ((⟨some 13, Op.index _ _ _, _, _, _, _⟩ : Oper) :: _) _ _
                     go_must (refine wpList_index2 rfl 51 (.tmp 9) (.tmp 10) rfl 64 50 arr_under Try.isAgg50 Try.sizeOf50 (T.flatMap tc) rfl k rfl hlt _ _ HN.out.2.1 HN.out.2.2 ?_))
        go_quiet (fail)
        go_wp2_with fail
        go_roundw
        case rel => exact ⟨k + 1, A, n, c, by omega, by go_num, rfl, hn, by rw [HE.out]; exact hO2.out, Lib.hid (below_drawn hB2.out _)⟩
        case measure => simp [intOf]; omega
      · by_cases hx : x ≤ now
        · have e := due_in (T := T) (now := now) (k := k) (by rw [HN.out.1]; simp [hx])
          have HE := Lib.hid e
          clear e
          go_wp2_with (with_reducible show wpList _ _ _ ((⟨some 13, Op.index _ _ _, _, _, _, _⟩ : Oper) :: _) _ _
                       go_must (refine wpList_index2 rfl 51 (.tmp 9) (.tmp 10) rfl 64 50 arr_under Try.isAgg50 Try.sizeOf50 (T.flatMap tc) rfl k rfl hlt _ _ HN.out.2.1 HN.out.2.2 ?_))
          go_quiet (fail)
          have hO3 : ((wr.alloc (.cells #[.int .i64 x, .bool true] 50)).drewN nq).ownsRow (w.heap.size + 1) 3 1 (.slice A n c) n (is (PWheel.due T now k)) := hO2.out
          have hB3 := Lib.hid (below_drawn hB2.out nq)
          have hs3 : w.heap.size + 1 ≤ ((wr.alloc (.cells #[.int .i64 x, .bool true] 50)).drewN nq).heap.size := by
            have : ((wr.alloc (.cells #[.int .i64 x, .bool true] 50)).drewN nq).heap.size = wr.heap.size + 1 := by
              show (wr.alloc _).heap.size = _
              simp
            omega
          generalize (wr.alloc (.cells #[.int .i64 x, .bool true] 50)).drewN nq = w3 at *
          go_wp2_with (at_builtin; go_must (refine wpList_push rfl (.tmp 25) (.tmp 27) _ rfl (w.heap.size + 1) 3 _ 8 Try.underlying35 int_info rfl A c n (is (PWheel.due T now k)) rfl hO3 rfl rfl ?c2 ?c3 ?c4 ?_))
          case c2 => unfold maxLen; omega
          case c3 => omega
          case c4 => omega
          intro A2 c2 w4 hO4 _ hB4
          have hO4' := Lib.hid hO4
          have hB4' := Lib.hid (hB3.out.trans hB4)
          clear hO4 hB4 hO3
          go_wp2_with fail
          go_roundw
          case rel => exact ⟨k + 1, A2, n + 1, c2, by omega, by go_num, rfl, by omega, by rw [HE.out, is_append]; exact hO4', hB4'⟩
          case measure => simp [intOf]; omega
        · have e := due_out (T := T) (now := now) (k := k) (by rw [HN.out.1]; simp [hx])
          have HE := Lib.hid e
          clear e
          have hxb : decide (x ≤ now) = false := decide_eq_false hx
          go_wp2_with (with_reducible show wpList _ _ _ ((⟨some 13, Op.index _ _ _, _, _, _, _⟩ : Oper) :: _) _ _
                       go_must (refine wpList_index2 rfl 51 (.tmp 9) (.tmp 10) rfl 64 50 arr_under Try.isAgg50 Try.sizeOf50 (T.flatMap tc) rfl k rfl hlt _ _ HN.out.2.1 HN.out.2.2 ?_))
          go_quiet (fail)
          go_wp2_with fail
          go_roundw
          case rel => exact ⟨k + 1, A, n, c, by omega, by go_num, rfl, hn, by rw [HE.out]; exact hO2.out, Lib.hid (below_drawn hB2.out _)⟩
          case measure => simp [intOf]; omega
    · obtain rfl : k = 64 := by omega
      have c0 := NB.cell (i := 0) rfl
      have hup := PWheel.due_up T now 64
      have hmem : ∀ x ∈ PWheel.due T now 64, 0 ≤ x ∧ x < 64 := fun x hx => ⟨(PWheel.mem_due.1 hx).1, (PWheel.mem_due.1 hx).2.1⟩
      have HD := Lib.hid (And.intro hup hmem)
      have NB' := Lib.hid NB
      have WB' := Lib.hid WB
      clear hup hmem NB WB
      go_wp2_with fail
      rcases A with _ | ad
      · have h0 : n = 0 ∧ c = 0 := by
          rcases hO.out.2 with ⟨e, e'⟩ | ⟨g', cap, cur, e, _⟩
          · cases e; exact ⟨rfl, rfl⟩
          · cases e
        obtain ⟨rfl, rfl⟩ := h0
        have hnil : PWheel.due T now 64 = [] := List.eq_nil_of_length_eq_zero hnl.out.symm
        have HN := Lib.hid hnil
        clear hnil hnl
        refine (sortStable_nil _ _).mono ?_
        rintro e w' ⟨rfl, rfl⟩
        go_wp2_with fail
        go_ret
        exact ⟨none, 0, 0, [], rfl, rfl, by rw [HN.out], List.Pairwise.nil, ⟨rfl, .inl ⟨rfl, rfl⟩⟩, HB1.out.trans (hB.out.mono (Nat.le_succ _))⟩
      · have hg' : ∃ g', ad = ⟨g', 0, none⟩ := by
          rcases hO.out.2 with ⟨e, e'⟩ | ⟨g', cap, cur, e, _⟩
          · cases e
          · injection e with e1; exact ⟨g', by injection e1⟩
        obtain ⟨g', rfl⟩ := hg'
        obtain ⟨hln, hbase, Z, hSl, hback⟩ := own_sl hO.out
        have HS := Lib.hid (And.intro hSl (And.intro hback hln))
        have HG := Lib.hid hbase
        clear hln hbase hSl hback hnl
        have hcm : Cm wr g' (PWheel.key T) (fun x => 0 ≤ x ∧ x < 64) 24 #[.pointer (some ⟨w.heap.size, 0, none⟩)] := by
          intro w' hT x y hx hy
          have hbase := HG.out
          obtain ⟨i, rfl⟩ := Int.eq_ofNat_of_zero_le hx.1
          obtain ⟨j, rfl⟩ := Int.eq_ofNat_of_zero_le hy.1
          have := byTime_c w' w.heap.size g now T (NB'.out.touch hT (by simp; omega)) (WB'.out.touch hT (by simp; omega)) i j (by omega) (by omega)
          simpa [PWheel.key] using this
        have HC := Lib.hid hcm
        clear hcm
        refine (sortStable_c _ g' c n Z (PWheel.due T now 64) (PWheel.key T) (fun x => 0 ≤ x ∧ x < 64) 24 _ (enters_of Try.func24 (by kernel_rfl) rfl) HS.out.2.2 (by omega) HS.out.1 HC.out HD.out.2 HD.out.1).mono ?_
        rintro e w5 ⟨rfl, M, p5, s5, S5, T5⟩
        have H5 := Lib.hid (And.intro p5 (And.intro s5 (And.intro (HS.out.2.1 w5 M p5.length_eq S5) T5)))
        clear p5 s5 S5 T5
        go_wp2_with fail
        go_ret
        refine ⟨_, n, c, M, rfl, by rw [HS.out.2.2, H5.out.1.length_eq], H5.out.1, H5.out.2.1, own_base H5.out.2.2.1 (Nat.le_succ _), HB1.out.trans ((hB.out.mono (Nat.le_succ _)).trans ?_)⟩
        exact H5.out.2.2.2.below (fun k hk => by simp at hk; have := HG.out; omega) (by omega)

end Go.Proofs.Ytnpdhddnlcpaiaa
