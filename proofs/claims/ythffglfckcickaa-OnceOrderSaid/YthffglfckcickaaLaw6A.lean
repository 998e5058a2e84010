/- The walks of begun and OnceNone. -/
import Derived.Test.YthffglfckcickaaOnceE
namespace Go.Proofs.Ythffglfckcickaa
open Go.RowKit

theorem begun1_c (w : World) (nb : Nat) (x : Int) (h : Blk w nb 3 [.int .i64 x]) (h1 : 0 ≤ x) (h2 : x ≤ 1000) :
    Calls Try.prog 18 #[.pointer (some ⟨nb, 0, none⟩)] w fun e w' => ∃ A n c, e = .returned (.slice A n c) ∧ Rd w' w'.heap.size A c 1 n (is [7, 8]) ∧ Touch [nb] w w' ∧ Blk w' nb 3 [.int .i64 (x + 1)] := by
  have hc := Blk.cell h (i := 0) rfl
  have hz := Blk.free h 0
  have hset := Blk.set h 0 (.int .i64 (x + 1))
  have hr := Rd.new (w.setCell ⟨nb, 0, none⟩ (.int .i64 (x + 1))) #[.int .i64 7, .int .i64 8] 2 1 2 rfl (by simp [maxLen])
  have hb : Touch [nb] w ((w.setCell ⟨nb, 0, none⟩ (.int .i64 (x + 1))).alloc (.cells #[.int .i64 7, .int .i64 8] 2)) := ((Touch.refl _ _).cell (by simp) _ _).alloc _
  have hset2 := hset.alloc (.cells #[.int .i64 7, .int .i64 8] 2)
  have hsz : (w.setCell ⟨nb, 0, none⟩ (.int .i64 (x + 1))).heap.size = w.heap.size := by simp [World.setCell]
  rw [hsz] at hr
  clear hset hsz
  go_enter Try.func18, Try.ntmps18
  go_wp2
  go_ret
  exact ⟨_, _, _, rfl, hr.tight, hb, hset2⟩

set_option maxHeartbeats 2000000 in
theorem begun_c (w : World) :
    Calls Try.prog 8 #[] w fun e w' => e = .returned (.bool true) ∧ Below w.heap.size w w' := by
  have hmf : ∀ (fn : Fn) (first cap : Array Value) (w : World), (Instr.makeFunc fn first cap).run Try.prog w = .ok (.func fn first cap) w := fun _ _ _ _ => rfl
  go_enter Try.func8, Try.ntmps8
  go_wp2_with fail
  have N1 : Blk _ _ 3 [.int .i64 0] := Blk.new w #[.int .i64 0] 3
  have hb1 : Below w.heap.size w (w.alloc (.cells #[.int .i64 0] 3)) := (Below.refl _ _).alloc (Nat.le_refl _) _
  refine (New_k _ 18 _).mono ?_
  generalize w.alloc (.cells #[.int .i64 0] 3) = w1 at *
  rintro e w2 ⟨rfl, C, hb2, hs2⟩
  have N2 := N1.past hb2
  have hs1 := hb1.size
  have hb2' := hb1.trans (hb2.mono hs1)
  have hn0 := Blk.cell N2 (i := 0) rfl
  go_wp2_with fail
  refine (Done0_c w2 _ _ _ _ _ C).mono ?_
  rintro e w' ⟨rfl, rfl⟩
  go_wp2_with fail
  have hlt := N1.lt
  refine (Get_counted w2 w1.heap.size w.heap.size 3 [.int .i64 (0 + 1)] 18 _ [7, 8] C (by omega) (callable_of Try.func18 (by kernel_rfl) rfl) (by simp) (fun v1 t1 => begun1_c v1 _ 0 (N2.touch t1 (by simp; omega)) (by omega) (by omega))).mono ?_
  rintro e w3 ⟨v3, t3, M3, N3, A1, n1, c1, rfl, o1, b1⟩
  have M3' := M3.past b1
  have hb3 := (hb2'.trans (t3.below (by simp; omega) hb2'.size)).trans (b1.mono (Nat.le_trans hb2'.size t3.size))
  have hn1 := Blk.cell (N3.past b1) (i := 0) rfl
  obtain rfl := own_len o1
  go_wp2_with fail
  refine (Get_made w3 _ _ _ M3').mono ?_
  rintro e w4 ⟨A2, n2, c2, rfl, o2, b2⟩
  obtain rfl := own_len o2
  obtain ⟨gx, rfl, hgx, hgl, hat⟩ := own_at o2 (by simp)
  have h8 : w4.cell? ⟨gx, 1, none⟩ = some (.int .i64 8) := hat 1 (by simp)
  have hn4 : w4.cell? ⟨w.heap.size, 0, none⟩ = some (.int .i64 1) := Blk.cell ((N3.past b1).past b2) (i := 0) rfl
  obtain ⟨A, n, c, C4, _⟩ := M3'.past b2
  clear hat
  go_wp2_with fail
  refine (Done1_c w4 _ _ _ _ _ C4).mono ?_
  rintro e w' ⟨rfl, rfl⟩
  go_wp2_with fail
  go_ret
  exact ⟨rfl, hb3.trans (b2.mono hb3.size)⟩

theorem OnceNone_w (w : World) :
    Calls Try.prog 6 #[] w fun e w' => e = .returned (.bool true) ∧ Below w.heap.size w w' := by
  have hnot : ∀ (x : Bool) (w : World), (Op.unary .not (.bool x)).run Try.prog w = .ok (.bool (!x)) w := fun _ _ => rfl
  go_enter Try.func6, Try.ntmps6
  go_wp2_with fail
  refine (New_nil w).mono ?_
  have C1 : Cel _ _ 0 0 0 .nilFunc nilS := Blk.new w #[.int .u32 0, .int .i32 0, .int .u32 0, .int .u32 0, .nilFunc, .slice none 0 0] 51
  have hb1 : Below w.heap.size w (w.alloc (.cells #[.int .u32 0, .int .i32 0, .int .u32 0, .int .u32 0, .nilFunc, .slice none 0 0] 51)) := (Below.refl _ _).alloc (Nat.le_refl _) _
  generalize w.alloc (.cells #[.int .u32 0, .int .i32 0, .int .u32 0, .int .u32 0, .nilFunc, .slice none 0 0] 51) = w1 at *
  rintro e w' ⟨rfl, rfl⟩
  go_wp2_with fail
  refine (begun_c _).mono ?_
  rintro e w2 ⟨rfl, hb2⟩
  have C2 := C1.past hb2
  have hb2' := hb1.trans (hb2.mono hb1.size)
  go_wp2_with fail
  refine (Get_nil w2).mono ?_
  rintro e w' ⟨rfl, rfl⟩
  go_wp2_with fail
  refine (Done_nil w2).mono ?_
  rintro e w' ⟨rfl, rfl⟩
  go_wp2_with fail
  refine (Get_first w2 _ _ C2 (fun w1 w2 l => l = [] ∧ w1 = w2) (fun w1 t1 C1 => fill_nil w1 _ 0 1 C1 _ (fun _ => ⟨rfl, rfl⟩))).mono ?_
  rintro e w4 ⟨u1, u2, w3, l, t1, ⟨rfl, rfl⟩, t3, M3, A, n, c, rfl, o1, b4⟩
  obtain rfl := own_len o1
  have t2 := t1.trans t3
  obtain ⟨A', n', c', C4, _⟩ := M3.past b4
  have hb4 := (hb2'.trans (t2.below (by simp) hb2'.size)).trans (b4.mono (Nat.le_trans hb2'.size t2.size))
  go_wp2_with fail
  refine (Done1_c w4 _ _ _ _ _ C4).mono ?_
  rintro e w' ⟨rfl, rfl⟩
  go_wp2_with fail
  go_ret
  exact ⟨rfl, hb4⟩
end Go.Proofs.Ythffglfckcickaa
