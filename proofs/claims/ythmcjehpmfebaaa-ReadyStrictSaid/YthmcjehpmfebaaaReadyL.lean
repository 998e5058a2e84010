/- Contract of the statements' kinds. -/
import Derived.Test.YthmcjehpmfebaaaReadyA
import Derived.Test.YthmcjehpmfebaaaInt
namespace Go.Proofs.Ythmcjehpmfebaaa
open Go.RowKit PReady

/-- What is known of the entry of number i. -/
structure KE (o v : Int) (i : Nat) (e : Ent) : Prop where
  fr : e.fr = 1
  boot : e.boot = 1
  seq : e.seq = (i : Int) + 1
  stamp : e.stamp = (i : Int)
  data : e.data = ⟨#[]⟩
  ord : 0 ≤ e.ord ∧ e.ord ≤ 2
  lev : 0 ≤ e.lev ∧ e.lev ≤ 2
  ordIs : 0 ≤ o → e.ord = o % 3
  levIs : 0 ≤ v → e.lev = v % 3
theorem nine (x : Int) : 0 ≤ Int.tmod (Int.tmod x 9 + 9) 9 ∧ Int.tmod (Int.tmod x 9 + 9) 9 ≤ 8 := by
  have h1 : -9 < Int.tmod x 9 ∧ Int.tmod x 9 < 9 := by
    have := Int.tmod_lt_of_pos x (show (0 : Int) < 9 by decide)
    have := Int.lt_tmod_of_pos x (show (0 : Int) < 9 by decide)
    omega
  rw [Int.tmod_eq_emod_of_nonneg (by omega)]
  omega
theorem rem9 (x : Int) : -9 < Int.tmod x 9 ∧ Int.tmod x 9 < 9 := by
  have := Int.tmod_lt_of_pos x (show (0 : Int) < 9 by decide)
  have := Int.lt_tmod_of_pos x (show (0 : Int) < 9 by decide)
  omega

set_option maxHeartbeats 4000000 in
set_option maxRecDepth 100000 in
theorem kinds_c (w : World) (B : Nat) (A : Option Addr) (c n : Nat) (zs : List Int) (h : Rd w B A c 1 n (is zs)) (o v : Int) (ho : -1 ≤ o ∧ o ≤ 2) (hv : -1 ≤ v ∧ v ≤ 2) :
    Calls Try.prog 23 #[.slice A n c, .int .i64 o, .int .i64 v] w fun x w' => ∃ (A' : Option Addr) (c' : Nat) (es : List Ent), x = .returned (.slice A' es.length c') ∧ es.length ≤ 30 ∧
      w'.ownsRow w.heap.size 39 7 (.slice A' es.length c') es.length (els es) ∧ (∀ (i : Nat) (e : Ent), es[i]? = some e → KE o v i e) ∧ Below w.heap.size w w' := by
  have hcap := h.cap
  have hle := h.le
  have hn : n ≤ 9223372036854775807 := by unfold maxLen at hcap; omega
  have R0 := Lib.hid h.tight
  clear h hcap hle
  go_enter Try.func23, Try.ntmps23
  go_wp2_with fail
  go_loopw [7, 8] (fun s7 s8 wr => ∃ (i c' : Nat) (A' : Option Addr) (es : List Ent), i ≤ n ∧ i ≤ 30 ∧ s8 = .int .i64 i ∧ s7 = .slice A' i c' ∧ Hid (es.length = i) ∧
      Hid (wr.ownsRow w.heap.size 39 7 (.slice A' i c') i (els es)) ∧ Hid (∀ (i : Nat) (e : Ent), es[i]? = some e → KE o v i e) ∧ Hid (Below w.heap.size w wr))
    (fun _ s8 _ => n - (intOf s8).toNat)
  case atStart => exact ⟨0, 0, none, [], by omega, by omega, rfl, rfl, Lib.hid rfl, Lib.hid (World.ownsRow_nil _ _ _ _), Lib.hid (by simp), Lib.hid (Below.refl _ _)⟩
  case round =>
    obtain ⟨i, c1, A1, es, hin, him, rfl, rfl, HL, O, HS, BL⟩ := hrel
    have FIN := Lib.hid (show ∃ (A' : Option Addr) (c' : Nat) (es' : List Ent), Ending.returned (.slice A1 i c1) = .returned (.slice A' es'.length c') ∧ es'.length ≤ 30 ∧
      wr.ownsRow w.heap.size 39 7 (.slice A' es'.length c') es'.length (els es') ∧ (∀ (i : Nat) (e : Ent), es'[i]? = some e → KE o v i e) ∧ Below w.heap.size w wr from
      ⟨A1, c1, es, by rw [HL.out], by rw [HL.out]; exact him, by rw [HL.out]; exact O.out, HS.out, BL.out⟩)
    by_cases h1 : i < n
    · by_cases h2 : i < 30
      · have j2 : (i : Int) < 30 := by omega
        obtain ⟨b, o', x, rfl, d0, -, -⟩ := (R0.out.below BL.out).int h1
        obtain ⟨k, hk⟩ : ∃ k, Int.tmod (Int.tmod x 9 + 9) 9 = k := ⟨_, rfl⟩
        have hk1 := nine x
        have hx1 := rem9 x
        rw [hk] at hk1
        obtain ⟨k0, k8⟩ := hk1
        have q3 : Int.tmod k 3 = k % 3 := Int.tmod_eq_emod_of_nonneg k0
        have d3 : Int.tdiv k 3 = k / 3 := Int.tdiv_eq_ediv_of_nonneg k0
        clear FIN
        by_cases g1 : 0 ≤ o
        · by_cases g2 : 0 ≤ v
          · have HZ := Lib.hid (show (wr.alloc (.cells #[.int .i64 1, .int .i64 1, .int .i64 ((i : Int) + 1), .int .i64 (o % 3), .int .i64 (v % 3), .int .i64 (i : Int), .string ⟨#[]⟩] 39)).heap.size = wr.heap.size + 1 by simp)
            have B1 := Lib.hid (BL.out.alloc BL.out.size (.cells #[.int .i64 1, .int .i64 1, .int .i64 ((i : Int) + 1), .int .i64 (o % 3), .int .i64 (v % 3), .int .i64 (i : Int), .string ⟨#[]⟩] 39))
            have O1 := Lib.hid (own_below O.out ((Below.refl wr.heap.size wr).alloc (Nat.le_refl _) (.cells #[.int .i64 1, .int .i64 1, .int .i64 ((i : Int) + 1), .int .i64 (o % 3), .int .i64 (v % 3), .int .i64 (i : Int), .string ⟨#[]⟩] 39)))
            have KX := Lib.hid (show KE o v i ⟨1, 1, (i : Int) + 1, o % 3, v % 3, (i : Int), ⟨#[]⟩⟩ from ⟨rfl, rfl, rfl, rfl, rfl, ⟨by show 0 ≤ (o % 3 : Int); omega, by show (o % 3 : Int) ≤ 2; omega⟩, ⟨by show 0 ≤ (v % 3 : Int); omega, by show (v % 3 : Int) ≤ 2; omega⟩, fun _ => by show (o % 3 : Int) = o % 3; omega, fun _ => by show (v % 3 : Int) = v % 3; omega⟩)
            go_wp2_with (at_builtin; go_must (refine wpList_pushes rfl (.tmp 46) (.tmp 48) _ rfl w.heap.size 39 (ev zeroE) 7 64 1 Try.underlying22 ent_info rfl (by omega) rfl (by unfold maxLen; omega) A1 c1 i (els es) rfl O1.out (by rw [HZ.out]; rfl) ?h1 ?h2 ?h3 ?h4 ?_))
            case h1 => first | exact ⟨rfl, rfl, rfl, rfl, rfl, rfl⟩ | exact ⟨rfl, rfl, rfl, rfl, rfl, rfl, rfl⟩
            case h2 => unfold maxLen; omega
            case h3 => omega
            case h4 => first | exact B1.out.size | (have := B1.out.size; rw [HZ.out] at this; exact this)
            intro A2 c2 w2 hown2 hg2 hb2
            have B2 := Lib.hid (B1.out.trans hb2)
            have O2 := Lib.hid (show w2.ownsRow w.heap.size 39 7 (.slice A2 (i + 1) c2) (i + 1) (els (es ++ [⟨1, 1, (i : Int) + 1, o % 3, v % 3, (i : Int), ⟨#[]⟩⟩])) by rw [els_append]; exact hown2)
            clear hown2 hg2 hb2 B1 O1 d0
            go_wp2_with fail
            go_roundw
            case rel => exact ⟨i + 1, c2, A2, es ++ [⟨1, 1, (i : Int) + 1, o % 3, v % 3, (i : Int), ⟨#[]⟩⟩], by omega, by omega, by go_num, rfl, Lib.hid (by simp [HL.out]), O2, Lib.hid (fun j y hy => by
              by_cases hj : j < es.length
              · rw [List.getElem?_append_left hj] at hy
                exact HS.out j y hy
              · have hlen := (List.getElem?_eq_some_iff.1 hy).1
                simp only [List.length_append, List.length_cons, List.length_nil] at hlen
                obtain rfl : j = es.length := by omega
                rw [List.getElem?_append_right (Nat.le_refl _), Nat.sub_self, List.getElem?_cons_zero] at hy
                cases hy
                rw [HL.out]
                exact KX.out), B2⟩
            case measure => simp [intOf]; omega
          · have HZ := Lib.hid (show (wr.alloc (.cells #[.int .i64 1, .int .i64 1, .int .i64 ((i : Int) + 1), .int .i64 (o % 3), .int .i64 (k / 3), .int .i64 (i : Int), .string ⟨#[]⟩] 39)).heap.size = wr.heap.size + 1 by simp)
            have B1 := Lib.hid (BL.out.alloc BL.out.size (.cells #[.int .i64 1, .int .i64 1, .int .i64 ((i : Int) + 1), .int .i64 (o % 3), .int .i64 (k / 3), .int .i64 (i : Int), .string ⟨#[]⟩] 39))
            have O1 := Lib.hid (own_below O.out ((Below.refl wr.heap.size wr).alloc (Nat.le_refl _) (.cells #[.int .i64 1, .int .i64 1, .int .i64 ((i : Int) + 1), .int .i64 (o % 3), .int .i64 (k / 3), .int .i64 (i : Int), .string ⟨#[]⟩] 39)))
            have KX := Lib.hid (show KE o v i ⟨1, 1, (i : Int) + 1, o % 3, k / 3, (i : Int), ⟨#[]⟩⟩ from ⟨rfl, rfl, rfl, rfl, rfl, ⟨by show 0 ≤ (o % 3 : Int); omega, by show (o % 3 : Int) ≤ 2; omega⟩, ⟨by show 0 ≤ (k / 3 : Int); omega, by show (k / 3 : Int) ≤ 2; omega⟩, fun _ => by show (o % 3 : Int) = o % 3; omega, fun _ => by show (k / 3 : Int) = v % 3; omega⟩)
            go_wp2_with (at_builtin; go_must (refine wpList_pushes rfl (.tmp 46) (.tmp 48) _ rfl w.heap.size 39 (ev zeroE) 7 64 1 Try.underlying22 ent_info rfl (by omega) rfl (by unfold maxLen; omega) A1 c1 i (els es) rfl O1.out (by rw [HZ.out]; rfl) ?h1 ?h2 ?h3 ?h4 ?_))
            case h1 => first | exact ⟨rfl, rfl, rfl, rfl, rfl, rfl⟩ | exact ⟨rfl, rfl, rfl, rfl, rfl, rfl, rfl⟩
            case h2 => unfold maxLen; omega
            case h3 => omega
            case h4 => first | exact B1.out.size | (have := B1.out.size; rw [HZ.out] at this; exact this)
            intro A2 c2 w2 hown2 hg2 hb2
            have B2 := Lib.hid (B1.out.trans hb2)
            have O2 := Lib.hid (show w2.ownsRow w.heap.size 39 7 (.slice A2 (i + 1) c2) (i + 1) (els (es ++ [⟨1, 1, (i : Int) + 1, o % 3, k / 3, (i : Int), ⟨#[]⟩⟩])) by rw [els_append]; exact hown2)
            clear hown2 hg2 hb2 B1 O1 d0
            go_wp2_with fail
            go_roundw
            case rel => exact ⟨i + 1, c2, A2, es ++ [⟨1, 1, (i : Int) + 1, o % 3, k / 3, (i : Int), ⟨#[]⟩⟩], by omega, by omega, by go_num, rfl, Lib.hid (by simp [HL.out]), O2, Lib.hid (fun j y hy => by
              by_cases hj : j < es.length
              · rw [List.getElem?_append_left hj] at hy
                exact HS.out j y hy
              · have hlen := (List.getElem?_eq_some_iff.1 hy).1
                simp only [List.length_append, List.length_cons, List.length_nil] at hlen
                obtain rfl : j = es.length := by omega
                rw [List.getElem?_append_right (Nat.le_refl _), Nat.sub_self, List.getElem?_cons_zero] at hy
                cases hy
                rw [HL.out]
                exact KX.out), B2⟩
            case measure => simp [intOf]; omega
        · by_cases g2 : 0 ≤ v
          · have HZ := Lib.hid (show (wr.alloc (.cells #[.int .i64 1, .int .i64 1, .int .i64 ((i : Int) + 1), .int .i64 (k % 3), .int .i64 (v % 3), .int .i64 (i : Int), .string ⟨#[]⟩] 39)).heap.size = wr.heap.size + 1 by simp)
            have B1 := Lib.hid (BL.out.alloc BL.out.size (.cells #[.int .i64 1, .int .i64 1, .int .i64 ((i : Int) + 1), .int .i64 (k % 3), .int .i64 (v % 3), .int .i64 (i : Int), .string ⟨#[]⟩] 39))
            have O1 := Lib.hid (own_below O.out ((Below.refl wr.heap.size wr).alloc (Nat.le_refl _) (.cells #[.int .i64 1, .int .i64 1, .int .i64 ((i : Int) + 1), .int .i64 (k % 3), .int .i64 (v % 3), .int .i64 (i : Int), .string ⟨#[]⟩] 39)))
            have KX := Lib.hid (show KE o v i ⟨1, 1, (i : Int) + 1, k % 3, v % 3, (i : Int), ⟨#[]⟩⟩ from ⟨rfl, rfl, rfl, rfl, rfl, ⟨by show 0 ≤ (k % 3 : Int); omega, by show (k % 3 : Int) ≤ 2; omega⟩, ⟨by show 0 ≤ (v % 3 : Int); omega, by show (v % 3 : Int) ≤ 2; omega⟩, fun _ => by show (k % 3 : Int) = o % 3; omega, fun _ => by show (v % 3 : Int) = v % 3; omega⟩)
            go_wp2_with (at_builtin; go_must (refine wpList_pushes rfl (.tmp 46) (.tmp 48) _ rfl w.heap.size 39 (ev zeroE) 7 64 1 Try.underlying22 ent_info rfl (by omega) rfl (by unfold maxLen; omega) A1 c1 i (els es) rfl O1.out (by rw [HZ.out]; rfl) ?h1 ?h2 ?h3 ?h4 ?_))
            case h1 => first | exact ⟨rfl, rfl, rfl, rfl, rfl, rfl⟩ | exact ⟨rfl, rfl, rfl, rfl, rfl, rfl, rfl⟩
            case h2 => unfold maxLen; omega
            case h3 => omega
            case h4 => first | exact B1.out.size | (have := B1.out.size; rw [HZ.out] at this; exact this)
            intro A2 c2 w2 hown2 hg2 hb2
            have B2 := Lib.hid (B1.out.trans hb2)
            have O2 := Lib.hid (show w2.ownsRow w.heap.size 39 7 (.slice A2 (i + 1) c2) (i + 1) (els (es ++ [⟨1, 1, (i : Int) + 1, k % 3, v % 3, (i : Int), ⟨#[]⟩⟩])) by rw [els_append]; exact hown2)
            clear hown2 hg2 hb2 B1 O1 d0
            go_wp2_with fail
            go_roundw
            case rel => exact ⟨i + 1, c2, A2, es ++ [⟨1, 1, (i : Int) + 1, k % 3, v % 3, (i : Int), ⟨#[]⟩⟩], by omega, by omega, by go_num, rfl, Lib.hid (by simp [HL.out]), O2, Lib.hid (fun j y hy => by
              by_cases hj : j < es.length
              · rw [List.getElem?_append_left hj] at hy
                exact HS.out j y hy
              · have hlen := (List.getElem?_eq_some_iff.1 hy).1
                simp only [List.length_append, List.length_cons, List.length_nil] at hlen
                obtain rfl : j = es.length := by omega
                rw [List.getElem?_append_right (Nat.le_refl _), Nat.sub_self, List.getElem?_cons_zero] at hy
                cases hy
                rw [HL.out]
                exact KX.out), B2⟩
            case measure => simp [intOf]; omega
          · have HZ := Lib.hid (show (wr.alloc (.cells #[.int .i64 1, .int .i64 1, .int .i64 ((i : Int) + 1), .int .i64 (k % 3), .int .i64 (k / 3), .int .i64 (i : Int), .string ⟨#[]⟩] 39)).heap.size = wr.heap.size + 1 by simp)
            have B1 := Lib.hid (BL.out.alloc BL.out.size (.cells #[.int .i64 1, .int .i64 1, .int .i64 ((i : Int) + 1), .int .i64 (k % 3), .int .i64 (k / 3), .int .i64 (i : Int), .string ⟨#[]⟩] 39))
            have O1 := Lib.hid (own_below O.out ((Below.refl wr.heap.size wr).alloc (Nat.le_refl _) (.cells #[.int .i64 1, .int .i64 1, .int .i64 ((i : Int) + 1), .int .i64 (k % 3), .int .i64 (k / 3), .int .i64 (i : Int), .string ⟨#[]⟩] 39)))
            have KX := Lib.hid (show KE o v i ⟨1, 1, (i : Int) + 1, k % 3, k / 3, (i : Int), ⟨#[]⟩⟩ from ⟨rfl, rfl, rfl, rfl, rfl, ⟨by show 0 ≤ (k % 3 : Int); omega, by show (k % 3 : Int) ≤ 2; omega⟩, ⟨by show 0 ≤ (k / 3 : Int); omega, by show (k / 3 : Int) ≤ 2; omega⟩, fun _ => by show (k % 3 : Int) = o % 3; omega, fun _ => by show (k / 3 : Int) = v % 3; omega⟩)
            go_wp2_with (at_builtin; go_must (refine wpList_pushes rfl (.tmp 46) (.tmp 48) _ rfl w.heap.size 39 (ev zeroE) 7 64 1 Try.underlying22 ent_info rfl (by omega) rfl (by unfold maxLen; omega) A1 c1 i (els es) rfl O1.out (by rw [HZ.out]; rfl) ?h1 ?h2 ?h3 ?h4 ?_))
            case h1 => first | exact ⟨rfl, rfl, rfl, rfl, rfl, rfl⟩ | exact ⟨rfl, rfl, rfl, rfl, rfl, rfl, rfl⟩
            case h2 => unfold maxLen; omega
            case h3 => omega
            case h4 => first | exact B1.out.size | (have := B1.out.size; rw [HZ.out] at this; exact this)
            intro A2 c2 w2 hown2 hg2 hb2
            have B2 := Lib.hid (B1.out.trans hb2)
            have O2 := Lib.hid (show w2.ownsRow w.heap.size 39 7 (.slice A2 (i + 1) c2) (i + 1) (els (es ++ [⟨1, 1, (i : Int) + 1, k % 3, k / 3, (i : Int), ⟨#[]⟩⟩])) by rw [els_append]; exact hown2)
            clear hown2 hg2 hb2 B1 O1 d0
            go_wp2_with fail
            go_roundw
            case rel => exact ⟨i + 1, c2, A2, es ++ [⟨1, 1, (i : Int) + 1, k % 3, k / 3, (i : Int), ⟨#[]⟩⟩], by omega, by omega, by go_num, rfl, Lib.hid (by simp [HL.out]), O2, Lib.hid (fun j y hy => by
              by_cases hj : j < es.length
              · rw [List.getElem?_append_left hj] at hy
                exact HS.out j y hy
              · have hlen := (List.getElem?_eq_some_iff.1 hy).1
                simp only [List.length_append, List.length_cons, List.length_nil] at hlen
                obtain rfl : j = es.length := by omega
                rw [List.getElem?_append_right (Nat.le_refl _), Nat.sub_self, List.getElem?_cons_zero] at hy
                cases hy
                rw [HL.out]
                exact KX.out), B2⟩
            case measure => simp [intOf]; omega
      · have j2 : ¬ (i : Int) < 30 := by omega
        go_wp2_with fail
        go_ret
        exact FIN.out
    · go_wp2_with fail
      go_ret
      exact FIN.out
end Go.Proofs.Ythmcjehpmfebaaa
