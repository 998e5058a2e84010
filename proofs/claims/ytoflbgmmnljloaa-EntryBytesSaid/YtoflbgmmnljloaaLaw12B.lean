/- The walk of EntryBytes. -/
import Derived.Test.YtoflbgmmnljloaaEntI
import Derived.Test.YtoflbgmmnljloaaEntJ
import Derived.Test.YtoflbgmmnljloaaEntK
namespace Go.Proofs.Ytoflbgmmnljloaa
open Go.RowKit

theorem encode_some {l : List Ent} (h : 0 < (PEnt.encode l).length) : l.all PEnt.may = true := by
  cases hl : l.all PEnt.may
  · have := (PEnt.encode_zero l).2 (.inl hl)
    omega
  · rfl
theorem eqL_self (l : List Ent) : PEnt.eqL l l = true := (PEnt.eqL_iff l l).2 rfl
theorem set_byte {l : List Int} (hb : isB l) (j : Nat) {x : Int} (hx : 0 ≤ x ∧ x < 256) : isB (l.set j x) := by
  intro y hy
  rcases List.mem_or_eq_of_mem_set hy with h | h
  · exact hb y h
  · subst h; exact hx

set_option maxHeartbeats 4000000 in
set_option maxRecDepth 100000 in
theorem EntryBytes_w (w : World) (A : Option Addr) (c n : Nat) (l : List Ent) (a x : Int) (h : Rd w w.heap.size A c 7 n (els l)) (hok : ∀ e ∈ l, EntOk e) (ha : -9223372036854775808 ≤ a ∧ a ≤ 9223372036854775807) (hx0 : 0 ≤ x) (hx1 : x < 256) :
    Calls Try.prog 4 #[.slice A n c, .int .i64 a, .int .u8 x] w fun e w' => e = .returned (.bool true) ∧ Below w.heap.size w w' := by
  obtain ⟨x, rfl⟩ := Int.eq_ofNat_of_zero_le hx0
  have HOK := Lib.hid hok
  have R0 := Lib.hid h
  clear hok h
  go_enter Try.func4, Try.ntmps4
  go_wp2_with fail
  refine (begun_c w).mono ?_
  rintro e w1 ⟨rfl, hb1⟩
  have B1 := Lib.hid hb1
  have R1 := Lib.hid (R0.out.past hb1).tight
  clear R0 hb1
  go_wp2_with fail
  refine (lEntries_c w1 A c n l 8 R1.out HOK.out (by omega) (by omega)).mono ?_
  rintro e w2 ⟨A2, c2, es, rfl, hes, hown, hsm, b2⟩
  have B2 := Lib.hid (B1.out.trans (b2.mono B1.out.size))
  have R2 := Lib.hid (Rd.of_own hown)
  have hm8 : es.length ≤ 8 := by rw [hes]; exact Nat.min_le_right ..
  clear hown hsm b2 hes HOK R1 B1
  have hlen := PEnt.encode_len es
  have HEM := Lib.hid (fun h => encode_some (l := es) h)
  have HEG := Lib.hid (fun h => encode_good (l := es) h)
  have HDE := Lib.hid (fun h => PEnt.dec_enc (l := es) h)
  have HEB := Lib.hid (PEnt.encode_byte es)
  have KE := Lib.hid (fun w => Encode_c w)
  generalize hm : es.length = m at *
  have HM := Lib.hid hm
  clear hm
  go_wp2_with fail
  refine (Encode_c w2 _ A2 c2 m es R2.out (by omega)).mono ?_
  rintro e w3 ⟨A3, c3, rfl, hown, b3⟩
  have B3 := Lib.hid (B2.out.trans (b3.mono B2.out.size))
  have R3 := Lib.hid (R2.out.past b3).tight
  have S3 := Lib.hid (Rd.of_own hown)
  clear hown b3 R2 B2 KE
  have KR := Lib.hid (fun w B A c h hn => rEntries_c w B A c m es h hn)
  generalize PEnt.encode es = E at *
  generalize hn : E.length = N at *
  have HN := Lib.hid hn
  clear hn
  go_wp2_with fail
-- REGION curfew/curfewlaw12.EntryBytes 6 ebytes6 2
  refine Hb.begin ?_
  refine Hb.take (v := .slice A3 N c3) 0 19 rfl ?_ (fun _ _ => rfl)
  refine Hb.take (v := .string (strOfNums E)) 1 20 rfl ?_ (fun w' hw' => by exact run_toStrOp 5 rfl (S3.out.drew.below hw') Try.underlying30 Try.underlying5 Try.underlying9)
  refine Hb.take (v := .slice A2 m c2) 2 21 rfl ?_ (fun _ _ => rfl)
  refine Hb.call (f := 19) (args := #[.slice A2 m c2]) 3 22 rfl ?_ (run_callf Try.func19 (by kernel_rfl) (by kernel_rfl) (by simp only [List.map_toArray, List.map_cons, List.map_nil]; rfl))
  refine (KR.out w3.drew _ A2 c2 R3.out.drew (by omega)).mono ?_
  rintro x w4 ⟨A4, c4, rfl, hown, b4⟩
  have Q4 := Lib.hid (Rd.of_own hown)
  refine Hb.back b4 b4.size ?_
  refine Hb.take (v := .string (strOfNums E)) 4 23 rfl ?_ (fun w' hw' => by exact run_toStrOp 5 rfl (Q4.out.below hw') Try.underlying30 Try.underlying5 Try.underlying9)
  refine Hb.take (v := .bool false) 5 24 rfl ?_ (fun w' hw' => by exact run_strNe rfl rfl (by simp))
  refine Hb.done ?_
-- END
  have B4 := Lib.hid (B3.out.drew.trans (b4.mono B3.out.size))
  have R4 := Lib.hid (R3.out.drew.past b4).tight
  have S4 := Lib.hid (S3.out.drew.past b4).tight
  clear b4 R3 S3 B3
  by_cases hz : N = 0
  · subst hz
    go_wp2_with fail
    go_ret
    exact ⟨rfl, B4.out⟩
  have hall := HEM.out (by omega)
  have HD := Lib.hid (show PEnt.dec E = some es by rw [HEG.out hall]; exact HDE.out hall)
  clear hall HEM HEG HDE KR
  go_wp2_with fail
  refine (Decode_c w4 _ A3 c3 N E S4.out HEB.out (by omega)).mono ?_
  rw [HD.out]
  simp only [dErr, Option.getD_some]
  rw [HM.out]
  rintro e w5 ⟨A5, c5, rfl, hown5, b5⟩
  have B5 := Lib.hid (B4.out.trans (b5.mono B4.out.size))
  have R5 := Lib.hid (R4.out.past b5).tight
  have S5 := Lib.hid (S4.out.past b5).tight
  have T5 := Lib.hid (Rd.of_own hown5)
  clear hown5 b5 R4 S4 B4
  go_wp2_with fail
  refine (EqAll_c w5 A2 A5 c2 m c5 m es es R5.out T5.out).mono ?_
  rw [eqL_self]
  rintro e w6 ⟨rfl, b6⟩
  have B6 := Lib.hid (B5.out.trans (b6.mono B5.out.size))
  have S6 := Lib.hid (S5.out.past b6).tight
  clear b6 R5 S5 B5 T5
  by_cases hneg : a < 0
  · go_wp2_with fail
    go_ret
    exact ⟨rfl, B6.out⟩
  obtain ⟨a, rfl⟩ := Int.eq_ofNat_of_zero_le (show 0 ≤ a by omega)
  go_wp2_with (at_builtin; go_must (refine wpList_app rfl (.const (.slice none 0 0)) (.tmp 43) _ rfl w6.heap.size 5 _ 1 1 Try.underlying30 byte_info rfl (by omega) _ 0 [] rfl (World.ownsRow_nil _ _ _ _) _ A3 c3 N (bs E) rfl S6.out (bs_one _) ?c1 ?c2 ?c3 ?_))
  case c1 => unfold maxLen; omega
  case c2 => omega
  case c3 => exact Nat.le_refl _
  intro A7 c7 w7 hown7 hgrow7 hb7
  have hown8 : w7.ownsRow w6.heap.size 5 1 (.slice A7 N c7) N (bs E) := by simpa using hown7
  clear hown7 hgrow7
  obtain ⟨g, rfl, hg1, hg2⟩ := own_some hown8 (by omega)
  have hj : a % N < N := Nat.mod_lt _ (by omega)
  have HJ := Lib.hid (show (a : Int) % (N : Int) = ((a % N : Nat) : Int) by omega)
  generalize a % N = j at *
  obtain ⟨u, hu⟩ : ∃ u, E[j]? = some u := ⟨_, List.getElem?_eq_getElem (by rw [HN.out]; exact hj)⟩
  have hub := HEB.out u (List.mem_of_getElem? hu)
  have hcg : w7.cell? ⟨g, j, none⟩ = some (.int .u8 u) := by
    rw [hown8.cellAt j (by omega), bs, List.getElem?_map, hu]; rfl
  have hfz : w7.frozen? ⟨g, j, none⟩ = false := hown8.frozenAt j
  obtain ⟨u, rfl⟩ := Int.eq_ofNat_of_zero_le hub.1
  have e1 := u8_xor_nat u x (by omega) (by omega)
  have hst := hown8.stored j (.int .u8 (u ^^^ x : Nat))
  have hlx : u ^^^ x < 256 := Nat.xor_lt_two_pow (n := 8) (by omega) (by omega)
  have hnext : (bs E).set j (.int .u8 (u ^^^ x : Nat)) = bs (E.set j ((u ^^^ x : Nat) : Int)) := by
    rw [bs, ← List.map_set]; rfl
  rw [hnext] at hst
  have HDB := Lib.hid (set_byte HEB.out j (x := ((u ^^^ x : Nat) : Int)) ⟨by omega, by omega⟩)
  have RD := Lib.hid (Rd.of_own hst.1)
  have B7 := Lib.hid ((B6.out.trans (hb7.mono B6.out.size)).trans ((Below.refl w6.heap.size w7).setCell (p := ⟨g, j, none⟩) hg1 (.int .u8 (u ^^^ x : Nat)) |>.mono B6.out.size))
  clear hnext hst hu hub hown8 hb7 hlx
  generalize E.set j ((u ^^^ x : Nat) : Int) = D at *
  have e2 := HJ.out
  go_wp2_with fail
  refine (tells_c _ _ _ c7 N D RD.out HDB.out (by omega)).mono ?_
  rintro e w8 ⟨rfl, b8⟩
  go_wp2_with fail
  go_ret
  exact ⟨rfl, B7.out.trans (b8.mono B7.out.size)⟩
end Go.Proofs.Ytoflbgmmnljloaa
