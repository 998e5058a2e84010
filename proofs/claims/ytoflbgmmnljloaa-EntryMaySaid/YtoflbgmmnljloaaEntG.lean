/- Contract of Decode. -/
import Derived.Test.YtoflbgmmnljloaaEntF
namespace Go.Proofs.Ytoflbgmmnljloaa
open Go.RowKit

theorem ent_info : (Try.prog.info? 23).map (fun i => (i.zero, i.size, i.bytes)) = some (some (ev zeroE), 7, 64) := by kernel_rfl

def slLen : Value → Nat
  | .slice _ n _ => n
  | _ => 0
def dErr : Option (List Ent) → Int
  | some _ => 0
  | none => 1

/-- The loop's invariant: es were read of the first p bytes. -/
def DI (l : List Int) (es : List Ent) (p : Nat) : Prop := ∃ f, (l.drop p).length ≤ f ∧ PEnt.dec l = (PEnt.rdL f (l.drop p)).map (es ++ ·)
theorem DI.start (l : List Int) : DI l [] 0 := ⟨l.length, by simp, by simp [PEnt.dec]⟩
theorem DI.bad {l : List Int} {es : List Ent} {p : Nat} (h : DI l es p) (hp : 0 < (l.drop p).length) (he : PEnt.rdE (l.drop p) = none) : PEnt.dec l = none := by
  obtain ⟨f, hf, hd⟩ := h
  rw [hd]
  generalize l.drop p = m at *
  match f, m, hp with
  | 0, [], hp => simp at hp
  | 0, c :: r, _ => simp at hf
  | f + 1, [], hp => simp at hp
  | f + 1, c :: r, _ => simp [PEnt.rdL, he]
theorem DI.next {l : List Int} {es : List Ent} {p k : Nat} {e : Ent} (h : DI l es p) (hk : 0 < k) (hl : k ≤ (l.drop p).length) (he : PEnt.rdE (l.drop p) = some (e, k)) : DI l (es ++ [e]) (p + k) := by
  obtain ⟨f, hf, hd⟩ := h
  have e1 : l.drop (p + k) = (l.drop p).drop k := by rw [List.drop_drop]
  match f, hf, hd with
  | 0, hf, _ => omega
  | f + 1, hf, hd =>
    refine ⟨f, by rw [e1, List.length_drop]; omega, ?_⟩
    rw [hd, e1]
    generalize l.drop p = m at *
    match m, hl with
    | [], hl => simp at hl; omega
    | c :: r, _ =>
      simp only [PEnt.rdL, he]
      cases PEnt.rdL f ((c :: r).drop k) <;> simp
theorem DI.done {l : List Int} {es : List Ent} {p : Nat} (h : DI l es p) (hp : l.drop p = []) : PEnt.dec l = some es := by
  obtain ⟨f, _, hd⟩ := h
  rw [hd, hp]
  cases f <;> simp [PEnt.rdL]

set_option maxHeartbeats 4000000 in
set_option maxRecDepth 100000 in
theorem Decode_c (w : World) (B : Nat) (A : Option Addr) (c n : Nat) (l : List Int) (h : Rd w B A c 1 n (bs l)) (hb : isB l) (hn : n ≤ 1000000) :
    Calls Try.prog 20 #[.slice A n c] w fun x w' => ∃ A' c', x = .returned (.tuple #[.slice A' ((PEnt.dec l).getD []).length c', .int .i64 (dErr (PEnt.dec l))]) ∧
      w'.ownsRow w.heap.size 23 7 (.slice A' ((PEnt.dec l).getD []).length c') ((PEnt.dec l).getD []).length (els ((PEnt.dec l).getD [])) ∧ Below w.heap.size w w' := by
  have R0 := Lib.hid h.tight
  have HLn := Lib.hid h.blen
  have HB := Lib.hid hb
  clear h hb
  go_enter Try.func20, Try.ntmps20
  go_wp2_with fail
  go_loopw [0, 4, 5, 6, 7] (fun s0 s4 _ _ _ wr => ∃ (p m cb c' : Nat) (Ab A' : Option Addr) (es : List Ent), p ≤ n ∧ m ≤ p ∧ s0 = .slice Ab (n - p) cb ∧ s4 = .slice A' m c' ∧ Hid (Rd wr w.heap.size Ab cb 1 (n - p) (bs (l.drop p))) ∧
      Hid (wr.ownsRow w.heap.size 23 7 (.slice A' m c') m (els es)) ∧ Hid (DI l es p) ∧ Hid (Below w.heap.size w wr))
    (fun s0 _ _ _ _ _ => slLen s0)
  case atStart => exact ⟨0, 0, c, 0, A, none, [], by omega, by omega, rfl, rfl, R0, Lib.hid (World.ownsRow_nil _ _ _ _), Lib.hid (DI.start l), Lib.hid (Below.refl _ _)⟩
  case round =>
    clear R0
    obtain ⟨p, m, cb, c1, Ab, A1, es, hp, hm, rfl, rfl, R, O, HI, BL⟩ := hrel
    have HLd := Lib.hid (show (l.drop p).length = n - p by rw [List.length_drop, HLn.out])
    by_cases hlt : 0 < n - p
    · go_wp2_with fail
      refine (decodeOne_c wr _ Ab cb (n - p) (l.drop p) R.out (HB.out.drop p) (by omega)).mono ?_
      cases hr : PEnt.rdE (l.drop p) with
      | none =>
        have HD := Lib.hid (HI.out.bad (by rw [HLd.out]; exact hlt) hr)
        clear hr
        simp only [dtup, ev, zeroE]
        rintro x w1 ⟨rfl, b1⟩
        have B1 := Lib.hid (BL.out.trans (b1.mono BL.out.size))
        have B2 := Lib.hid (B1.out.alloc B1.out.size (.cells #[.int .i64 0, .int .i64 0, .int .i64 0, .int .i64 0, .int .i64 0, .int .i64 0, .string ⟨#[]⟩] 23))
        clear b1 BL O R
        go_wp2_with fail
        go_ret2
        refine ⟨none, 0, ?_, ?_, B2.out⟩
        · rw [HD.out]; rfl
        · rw [HD.out]; exact World.ownsRow_nil _ _ _ _
      | some q =>
        obtain ⟨e, k⟩ := q
        obtain ⟨he1, he2, he3, -⟩ := PEnt.rdE_inv (HB.out.drop p) hr
        rw [HLd.out] at he3
        have HI2 := Lib.hid (HI.out.next he2 (by rw [HLd.out]; exact he3) hr)
        clear hr he1
        simp only [dtup, ev]
        rintro x w1 ⟨rfl, b1⟩
        have B1 := Lib.hid (BL.out.trans (b1.mono BL.out.size))
        have O1 := Lib.hid (own_below O.out b1)
        have R1 := Lib.hid (R.out.past b1)
        clear b1 BL O R HI
        have O2 := own_below O1.out ((Below.refl _ _).alloc (Nat.le_refl _) (.cells #[.int .i64 e.fr, .int .i64 e.boot, .int .i64 e.seq, .int .i64 e.ord, .int .i64 e.lev, .int .i64 e.stamp, .string e.data] 23))
        have B2 := Lib.hid (B1.out.alloc B1.out.size (.cells #[.int .i64 e.fr, .int .i64 e.boot, .int .i64 e.seq, .int .i64 e.ord, .int .i64 e.lev, .int .i64 e.stamp, .string e.data] 23))
        have R2 := Lib.hid (R1.out.alloc (.cells #[.int .i64 e.fr, .int .i64 e.boot, .int .i64 e.seq, .int .i64 e.ord, .int .i64 e.lev, .int .i64 e.stamp, .string e.data] 23))
        have HO2 := Lib.hid O2
        clear O2 B1 R1 O1
        go_wp2_with (at_builtin; go_must (refine wpList_pushes rfl (.tmp 19) (.tmp 21) _ rfl w.heap.size 23 (ev zeroE) 7 64 1 Try.underlying28 ent_info rfl (by omega) rfl (by unfold maxLen; omega) A1 c1 m (els es) rfl HO2.out (by show Value.slice (some ⟨w1.heap.size + 1, 0, none⟩) 1 1 = _; simp) ?h1 ?h2 ?h3 ?h4 ?_))
        case h1 => exact ⟨rfl, rfl, rfl, rfl, rfl, rfl, rfl⟩
        case h2 => unfold maxLen; omega
        case h3 => omega
        case h4 => exact B2.out.size
        intro A2 c2 w2 hown2 hg2 hb2
        have B3 := Lib.hid (B2.out.trans hb2)
        have R3 := Lib.hid (R2.out.below hb2)
        have O3 := Lib.hid (show w2.ownsRow w.heap.size 23 7 (.slice A2 (m + 1) c2) (m + 1) (els (es ++ [e])) by rw [els_append]; exact hown2)
        clear hown2 hg2 hb2 B2 R2 HO2
        go_wp2_with (with_reducible show wpList _ _ _ ((⟨some 25, Op.slice 30 _ _ _ _, _, _, _, _⟩ : Oper) :: _) _ _
                     go_must (refine wpList_cut rfl 30 (.tmp 23) _ _ rfl 5 _ 1 1 Try.underlying30 byte_info _ Ab cb (n - p) (bs (l.drop p)) rfl R3.out k (n - p) (.inr rfl) (.inl ⟨rfl, rfl⟩) he3 (Nat.le_refl _) ?_))
        intro A4 c4 hr4
        rw [bs_tail HLd.out, List.drop_drop] at hr4
        have R4 := Lib.hid hr4
        clear hr4 R3
        go_wp2_with fail
        go_roundw
        case rel => exact ⟨p + k, m + 1, c4, c2, A4, A2, es ++ [e], by omega, by omega, by rw [Nat.sub_sub], rfl, Lib.hid (by rw [← Nat.sub_sub]; exact R4.out), O3, HI2, B3⟩
        case measure => simp [slLen]; omega
    · have hp0 : l.drop p = [] := List.eq_nil_of_length_eq_zero (by rw [HLd.out]; omega)
      have HD := Lib.hid (HI.out.done hp0)
      have hl := O.out.1
      rw [els_length] at hl
      have HM := Lib.hid (show es.length = m by omega)
      clear hl hp0
      go_wp2_with fail
      go_ret2
      refine ⟨A1, c1, ?_, ?_, BL.out⟩
      · rw [HD.out]; show _ = Ending.returned (.tuple #[.slice A1 es.length c1, .int .i64 0]); rw [HM.out]; rfl
      · rw [HD.out]; show wr.ownsRow _ _ _ (.slice A1 es.length c1) es.length (els es); rw [HM.out]; exact O.out
end Go.Proofs.Ytoflbgmmnljloaa
