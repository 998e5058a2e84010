/- The walk of OncePool: no length. All of OncePool. -/
import Derived.Test.YthffglfckcickaaLaw6D
import Derived.Test.YthffglfckcickaaHeld
import Derived.Test.YthffglfckcickaaLaw6E
import Derived.Test.YthffglfckcickaaLaw6F
import Derived.Test.YthffglfckcickaaLaw6G
namespace Go.Proofs.Ythffglfckcickaa
open Go.RowKit

set_option maxHeartbeats 8000000 in
set_option maxRecDepth 100000 in
theorem pool_w4 (w : World) (n0 : Int) (hneg : n0 ≤ 0) (A : Option Addr) (c n : Nat) :
    Calls Try.prog 5 #[.int .i64 n0, .slice A n c] w fun e w' => e = .returned (.bool true) ∧ Below w.heap.size w w' := by
  have hmf : ∀ (fn : Fn) (first cap : Array Value) (w : World), (Instr.makeFunc fn first cap).run Try.prog w = .ok (.func fn first cap) w := fun _ _ _ _ => rfl
  have hnot : ∀ (x : Bool) (w : World), (Op.unary .not (.bool x)).run Try.prog w = .ok (.bool (!x)) w := fun _ _ => rfl
  have hq0 : ¬ 70 < n0 := by omega
  have hq1 : ¬ 64 < n0 := by omega
  have hq2 : ¬ 0 < n0 := by omega
  go_enter Try.func5, Try.ntmps5
  go_wp2_with fail
  refine (begun_c _).mono ?_
  rintro e w3 ⟨rfl, hb3⟩
  go_wp2_with fail
  have P := Pool_c (w3.alloc (.cells #[.int .i64 0, .int .i64 0, .int .i64 0, .int .i64 0, .int .i64 0, .int .i64 0, .int .i64 0, .int .i64 0, .int .i64 0, .int .i64 0, .int .i64 0, .int .i64 0, .int .i64 0, .int .i64 0, .int .i64 0, .int .i64 0, .int .i64 0, .int .i64 0, .int .i64 0, .int .i64 0, .int .i64 0, .int .i64 0, .int .i64 0, .int .i64 0, .int .i64 0, .int .i64 0, .int .i64 0, .int .i64 0, .int .i64 0, .int .i64 0, .int .i64 0, .int .i64 0, .int .i64 0, .int .i64 0, .int .i64 0, .int .i64 0, .int .i64 0, .int .i64 0, .int .i64 0, .int .i64 0, .int .i64 0, .int .i64 0, .int .i64 0, .int .i64 0, .int .i64 0, .int .i64 0, .int .i64 0, .int .i64 0, .int .i64 0, .int .i64 0, .int .i64 0, .int .i64 0, .int .i64 0, .int .i64 0, .int .i64 0, .int .i64 0, .int .i64 0, .int .i64 0, .int .i64 0, .int .i64 0, .int .i64 0, .int .i64 0, .int .i64 0, .int .i64 0] 32)) n0 16 #[.pointer (some ⟨w3.heap.size, 0, none⟩)]
  rw [show poolLen n0 = 0 by unfold poolLen; omega] at P
  refine P.mono ?_
  clear P
  have hsz3 := hb3.size
  have M5 := made_new w3
  have hb5 := hb3.alloc hsz3 (.cells #[.int .i64 0, .int .i64 0, .int .i64 0, .int .i64 0, .int .i64 0, .int .i64 0, .int .i64 0, .int .i64 0, .int .i64 0, .int .i64 0, .int .i64 0, .int .i64 0, .int .i64 0, .int .i64 0, .int .i64 0, .int .i64 0, .int .i64 0, .int .i64 0, .int .i64 0, .int .i64 0, .int .i64 0, .int .i64 0, .int .i64 0, .int .i64 0, .int .i64 0, .int .i64 0, .int .i64 0, .int .i64 0, .int .i64 0, .int .i64 0, .int .i64 0, .int .i64 0, .int .i64 0, .int .i64 0, .int .i64 0, .int .i64 0, .int .i64 0, .int .i64 0, .int .i64 0, .int .i64 0, .int .i64 0, .int .i64 0, .int .i64 0, .int .i64 0, .int .i64 0, .int .i64 0, .int .i64 0, .int .i64 0, .int .i64 0, .int .i64 0, .int .i64 0, .int .i64 0, .int .i64 0, .int .i64 0, .int .i64 0, .int .i64 0, .int .i64 0, .int .i64 0, .int .i64 0, .int .i64 0, .int .i64 0, .int .i64 0, .int .i64 0, .int .i64 0] 32)
  have hlt3 := M5.lt
  generalize w3.alloc (.cells #[.int .i64 0, .int .i64 0, .int .i64 0, .int .i64 0, .int .i64 0, .int .i64 0, .int .i64 0, .int .i64 0, .int .i64 0, .int .i64 0, .int .i64 0, .int .i64 0, .int .i64 0, .int .i64 0, .int .i64 0, .int .i64 0, .int .i64 0, .int .i64 0, .int .i64 0, .int .i64 0, .int .i64 0, .int .i64 0, .int .i64 0, .int .i64 0, .int .i64 0, .int .i64 0, .int .i64 0, .int .i64 0, .int .i64 0, .int .i64 0, .int .i64 0, .int .i64 0, .int .i64 0, .int .i64 0, .int .i64 0, .int .i64 0, .int .i64 0, .int .i64 0, .int .i64 0, .int .i64 0, .int .i64 0, .int .i64 0, .int .i64 0, .int .i64 0, .int .i64 0, .int .i64 0, .int .i64 0, .int .i64 0, .int .i64 0, .int .i64 0, .int .i64 0, .int .i64 0, .int .i64 0, .int .i64 0, .int .i64 0, .int .i64 0, .int .i64 0, .int .i64 0, .int .i64 0, .int .i64 0, .int .i64 0, .int .i64 0, .int .i64 0, .int .i64 0] 32) = w5 at *
  rintro e w6 ⟨A6, c6, gs, rfl, hgl, o6, P6, hb6⟩
  have M6 := M5.past hb6
  have hsz5 := hb5.size
  have hb6' := hb5.trans (hb6.mono hsz5)
  have hsz6 := hb6'.size
  clear P6 M5 hb3 hb5 hb6
  by_cases q1 : 0 < n
  all_goals
    go_wp2_with fail
    go_loopw [9] (fun s9 wr => s9 = .int .i64 0 ∧ Below w.heap.size w wr) (fun _ _ => 0)
    case atStart => exact ⟨rfl, hb6'.alloc hsz6 _⟩
    case round =>
      obtain ⟨rfl, hb⟩ := hrel
      go_wp2_with fail
      go_loopw [12] (fun s12 wq => s12 = .int .i64 0 ∧ Below w.heap.size w wq) (fun _ _ => 0)
      case atStart => exact ⟨rfl, hb⟩
      case round =>
        clear hb
        obtain ⟨rfl, hb⟩ := hrel
        go_wp2_with fail
        go_ret
        exact ⟨rfl, hb⟩

theorem OncePool_w (w : World) (n0 : Int) (A : Option Addr) (c n : Nat) (l : List Int) (h0 : Rd w w.heap.size A c 1 n (is l)) :
    Calls Try.prog 5 #[.int .i64 n0, .slice A n c] w fun e w' => e = .returned (.bool true) ∧ Below w.heap.size w w' := by
  by_cases h70 : 70 < n0
  · exact pool_w1 w n0 h70 A c n l h0
  by_cases h64 : 64 < n0
  · exact pool_w2 w n0 h70 h64 A c n l h0
  by_cases h1 : 0 < n0
  · obtain ⟨m, rfl⟩ : ∃ m : Nat, n0 = m := ⟨n0.toNat, by omega⟩
    exact pool_w3 w m (by omega) (by omega) A c n l h0
  · exact pool_w4 w n0 (by omega) A c n
end Go.Proofs.Ythffglfckcickaa
