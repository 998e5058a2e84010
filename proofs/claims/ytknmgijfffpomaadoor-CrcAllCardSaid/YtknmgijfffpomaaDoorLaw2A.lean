/- The walk of CrcAll. -/
import Derived.Test.YtknmgijfffpomaaDoorCrcF
import Derived.Test.YtknmgijfffpomaaDoorShort
import Derived.Test.YtknmgijfffpomaaDoorLaid
namespace Go.Proofs.YtknmgijfffpomaaDoor
open Go.RowKit

set_option maxRecDepth 100000 in
theorem CrcAll_w (w : World) (A A' : Option Addr) (c c' n n' : Nat) (l l' : List Int) (h : Rd w w.heap.size A c 1 n (bs l)) (h' : Rd w w.heap.size A' c' 1 n' (bs l')) (hb : isB l) (hb' : isB l') (ht : Tab w) :
    Calls Tryd.prog 3 #[.slice A n c, .slice A' n' c'] w fun e w' => e = .returned (.bool true) ∧ Below w.heap.size w w' := by
  go_enter Tryd.func3, Tryd.ntmps3
  go_wp2_with fail
  refine (begun_c w ht).mono ?_
  rintro e w1 ⟨rfl, hb1⟩
  go_wp2_with fail
  refine (Short_c w1 _ A c n l 300 (h.past hb1) (by omega)).mono ?_
  rintro e w2 ⟨A1, c1, rfl, rfl, hr1⟩
  have hB1 : isB (l.take (300 : Int).toNat) := hb.take _
  have hn1 : min n (300 : Int).toNat ≤ 300 := Nat.min_le_right ..
  generalize l.take (300 : Int).toNat = b at *
  generalize min n (300 : Int).toNat = n1 at *
  go_wp2_with fail
  refine (Short_c w1 _ A' c' n' l' 40 (h'.past hb1) (by omega)).mono ?_
  rintro e w2 ⟨A2, c2, rfl, rfl, hr2⟩
  have hB2 : isB (l'.take (40 : Int).toNat) := hb'.take _
  have hn2 : min n' (40 : Int).toNat ≤ 40 := Nat.min_le_right ..
  generalize l'.take (40 : Int).toNat = raw at *
  generalize min n' (40 : Int).toNat = n2 at *
  have ht1 := ht.past hb1
  have hsz1 := hb1.size
  clear h h' hb hb' ht
  go_wp2_with fail
  refine (Seal_c w1 _ A1 c1 n1 b hr1 hB1 ht1 (by omega)).mono ?_
  rintro e w2 ⟨A3, c3, rfl, hown3, hb2⟩
  have hS := Rd.of_own hown3
  have hr1' := (hr1.past hb2).more (Nat.le_trans hsz1 hb2.size)
  have hr2' := (hr2.past hb2).more (Nat.le_trans hsz1 hb2.size)
  have ht2 := ht1.past hb2
  have hBel2 := hb1.trans (hb2.mono hsz1)
  clear hr1 hr2 ht1 hown3 hb2 hb1 hsz1
  have hlb := hr1'.blen
  have HLB := Lib.hid hlb; clear hlb
  go_wp2_with fail
  refine (Open_c w2 _ A3 c3 (n1 + 4) _ hS (isB_sealed hB1) ht2 (by omega)).mono ?_
  rw [openP_sealed hB1]
  rintro e w3 ⟨A4, c4, rfl, hC, hb3⟩
  rw [HLB.out] at hC ⊢
  have hsz2 := hBel2.size
  have hS' := (hS.past hb3).more hb3.size
  have hr1 := (hr1'.past hb3).more hb3.size
  have hr2 := (hr2'.past hb3).more hb3.size
  have ht3 := ht2.past hb3
  have hBel3 := hBel2.trans (hb3.mono hsz2)
  clear hS hr1' hr2' ht2 hb3 hBel2 hsz2
  go_wp2_with fail
  refine (Open_c w3 _ A2 c2 n2 raw hr2 hB2 ht3 (by omega)).mono ?_
  rintro e w4 ⟨A5, c5, rfl, hD, hb4⟩
  have hsz3 := hBel3.size
  have hS := (hS'.past hb4).more hb4.size
  have hC' := (hC.past hb4).more hb4.size
  have hr1' := (hr1.past hb4).more hb4.size
  have hr2' := (hr2.past hb4).more hb4.size
  have ht4 := ht3.past hb4
  have hBel4 := hBel3.trans (hb4.mono hsz3)
  clear hS' hC hr1 hr2 ht3 hb4 hBel3 hsz3
  go_wp2_with fail
  refine (rOpen_c w4 _ A2 c2 n2 raw hr2' hB2 (by omega)).mono ?_
  generalize openP raw = r at *
  rintro e W ⟨A6, c6, rfl, hE, hb5⟩
  have hsz4 := hBel4.size
  have hS' := hS.past hb5
  have hC := hC'.past hb5
  have hD' := hD.past hb5
  have hr1 := hr1'.past hb5
  have htW : Tab W.drew := Tab.past (w' := W) ht4 hb5
  have hBel5 := hBel4.trans (hb5.mono hsz4)
  clear hS hC' hD hr1' hr2' ht4 hb5 hBel4 hsz4
  have hS := hS'
  have hD := hD'
  clear hS' hD'
  have hszW := hBel5.size
  go_wp2_with fail
-- REGION curfew/curfewlaw2.CrcAll 9 crcall 2
  refine Hb.begin ?_
  refine Hb.take (v := .slice A1 n1 c1) 0 37 rfl ?_ (fun _ _ => rfl)
  refine Hb.take (v := .slice A1 n1 c1) 2 39 rfl ?_ (fun _ _ => rfl)
  refine Hb.call (f := 12) (args := #[.slice A1 n1 c1]) 1 38 rfl ?_ (run_callf Tryd.func12 (by kernel_rfl) (by kernel_rfl) (by simp only [List.map_toArray, List.map_cons, List.map_nil]; rfl))
  refine (Sum_c W.drew _ A1 c1 n1 b hr1.drew hB1 htW).mono ?_
  rintro e w1 ⟨rfl, rfl⟩
  refine Hb.back (Below.refl _ _) (Nat.le_refl _) ?_
  refine Hb.call (f := 13) (args := #[.slice A1 n1 c1]) 3 40 rfl ?_ (run_callf Tryd.func13 (by kernel_rfl) (by kernel_rfl) (by simp only [List.map_toArray, List.map_cons, List.map_nil]; rfl))
  refine (rSum_c W.drew _ A1 c1 n1 b hr1.drew hB1).mono ?_
  rintro e w1 ⟨rfl, rfl⟩
  refine Hb.back (Below.refl _ _) (Nat.le_refl _) ?_
  refine Hb.take (v := .bool true) 4 41 rfl ?_ (fun w' hw' => by go_simp; first | done | rfl | omega | exact wrap_in (by omega) (by omega) | (simp; omega))
  refine Hb.take (v := .bool true) 5 42 rfl ?_ (fun _ _ => rfl)
  refine Hb.take (v := .slice A3 (n1 + 4) c3) 6 43 rfl ?_ (fun _ _ => rfl)
  refine Hb.take (v := .string (strOfNums (PCrc.sealed b))) 7 44 rfl ?_ (fun w' hw' => by exact run_toStrOp 5 rfl (hS.drew.past hw') Tryd.underlying22 Tryd.underlying5 Tryd.underlying9)
  refine Hb.take (v := .slice A1 n1 c1) 8 45 rfl ?_ (fun _ _ => rfl)
  refine Hb.call (f := 14) (args := #[.slice A1 n1 c1]) 9 46 rfl ?_ (run_callf Tryd.func14 (by kernel_rfl) (by kernel_rfl) (by simp only [List.map_toArray, List.map_cons, List.map_nil]; rfl))
  refine (rSeal_c W.drew _ A1 c1 n1 b hr1.drew hB1 (by omega)).mono ?_
  rintro e w2 ⟨A7, c7, rfl, hown7, hb7⟩
  have hr7 := Rd.of_own hown7
  have hC' := hC.drew.past hb7
  have hD' := hD.drew.past hb7
  have hE' := hE.drew.past hb7
  have hr1' := hr1.drew.past hb7
  refine Hb.back hb7 hb7.size ?_
  refine Hb.take (v := .string (strOfNums (PCrc.sealed b))) 10 47 rfl ?_ (fun w' hw' => by exact run_toStrOp 5 rfl (hr7.past hw') Tryd.underlying22 Tryd.underlying5 Tryd.underlying9)
  refine Hb.take (v := .bool true) 11 48 rfl ?_ (fun w' hw' => by exact run_strEq rfl rfl (by simp))
  refine Hb.take (v := .bool true) 12 49 rfl ?_ (fun _ _ => rfl)
  refine Hb.take (v := .bool true) 13 50 rfl ?_ (fun _ _ => rfl)
  refine Hb.take (v := .bool true) 14 51 rfl ?_ (fun _ _ => rfl)
  refine Hb.take (v := .bool true) 15 52 rfl ?_ (fun _ _ => rfl)
  refine Hb.take (v := .bool true) 16 53 rfl ?_ (fun _ _ => rfl)
  refine Hb.take (v := .slice A4 n1 c4) 17 54 rfl ?_ (fun _ _ => rfl)
  refine Hb.take (v := .string (strOfNums b)) 18 55 rfl ?_ (fun w' hw' => by exact run_toStrOp 5 rfl (hC'.past hw') Tryd.underlying22 Tryd.underlying5 Tryd.underlying9)
  refine Hb.take (v := .slice A1 n1 c1) 19 56 rfl ?_ (fun _ _ => rfl)
  refine Hb.take (v := .string (strOfNums b)) 20 57 rfl ?_ (fun w' hw' => by exact run_toStrOp 5 rfl (hr1'.past hw') Tryd.underlying22 Tryd.underlying5 Tryd.underlying9)
  refine Hb.take (v := .bool true) 21 58 rfl ?_ (fun w' hw' => by exact run_strEq rfl rfl (by simp))
  refine Hb.take (v := .bool true) 22 59 rfl ?_ (fun _ _ => rfl)
  refine Hb.take (v := .bool true) 23 60 rfl ?_ (fun _ _ => rfl)
  refine Hb.take (v := .bool r.2) 24 61 rfl ?_ (fun _ _ => rfl)
  refine Hb.take (v := .bool r.2) 25 62 rfl ?_ (fun _ _ => rfl)
  refine Hb.take (v := .bool true) 26 63 rfl ?_ (fun w' hw' => by go_simp; first | done | rfl | omega | exact wrap_in (by omega) (by omega) | (simp; omega))
  refine Hb.take (v := .bool true) 27 64 rfl ?_ (fun _ _ => rfl)
  refine Hb.take (v := .bool true) 28 65 rfl ?_ (fun _ _ => rfl)
  refine Hb.take (v := .slice A5 r.1.length c5) 29 66 rfl ?_ (fun _ _ => rfl)
  refine Hb.take (v := .string (strOfNums r.1)) 30 67 rfl ?_ (fun w' hw' => by exact run_toStrOp 5 rfl (hD'.past hw') Tryd.underlying22 Tryd.underlying5 Tryd.underlying9)
  refine Hb.take (v := .slice A6 r.1.length c6) 31 68 rfl ?_ (fun _ _ => rfl)
  refine Hb.take (v := .string (strOfNums r.1)) 32 69 rfl ?_ (fun w' hw' => by exact run_toStrOp 5 rfl (hE'.past hw') Tryd.underlying22 Tryd.underlying5 Tryd.underlying9)
  refine Hb.take (v := .bool true) 33 70 rfl ?_ (fun w' hw' => by exact run_strEq rfl rfl (by simp))
  refine Hb.take (v := .bool true) 34 71 rfl ?_ (fun _ _ => rfl)
  refine Hb.take (v := .bool true) 35 4 rfl ?_ (fun _ _ => rfl)
  refine Hb.done ?_
-- END
  go_wp2
  go_ret
  exact ⟨rfl, hBel5.drew.trans (hb7.mono hszW)⟩

end Go.Proofs.YtknmgijfffpomaaDoor
