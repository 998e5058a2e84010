/- Contracts of the library's IndexFunc, ContainsFunc, EqualFunc, Clone at entries; of Has's closure, of Front. -/
import Derived.Test.YtnpobagipgephaaEntF
import Derived.Test.YtnpobagipgephaaLog
import Derived.Test.YtnpobagipgephaaEntC
import Derived.Laws.StructEq
import Derived.Shelf.Abstract
namespace Go.Proofs.Ytnpobagipgephaa
open Go.RowKit


set_option maxRecDepth 100000 in
theorem hasClose_c (w : World) (k : Nat) (x e : Ent) (K : Blk w k 47 (ecs e)) :
    Calls Try.prog 43 #[ev x, .pointer (some ⟨k, 0, none⟩)] w fun q w' => q = .returned (.bool (PEnt.same x e)) ∧ Below w.heap.size w w' := by
  have b0 := (Below.refl w.heap.size w).alloc (Nat.le_refl _) (.cells #[.int .i64 x.fr, .int .i64 x.boot, .int .i64 x.seq, .int .i64 x.ord, .int .i64 x.lev, .int .i64 x.stamp, .string x.data] 47)
  have K1 := Blk.newEnt w 47 x
  have K2 := K.alloc (.cells #[.int .i64 x.fr, .int .i64 x.boot, .int .i64 x.seq, .int .i64 x.ord, .int .i64 x.lev, .int .i64 x.stamp, .string x.data] 47)
  obtain ⟨d0, d1, d2, d3, d4, d5, d6⟩ := K1.ent
  obtain ⟨f0, f1, f2, f3, f4, f5, f6⟩ := K2.ent
  clear K K1 K2
  show Calls _ _ #[.agg #[.int .i64 x.fr, .int .i64 x.boot, .int .i64 x.seq, .int .i64 x.ord, .int .i64 x.lev, .int .i64 x.stamp, .string x.data], _] _ _
  go_enter Try.func43, Try.ntmps43
  go_wp2_with fail
  generalize (w.alloc (.cells #[.int .i64 x.fr, .int .i64 x.boot, .int .i64 x.seq, .int .i64 x.ord, .int .i64 x.lev, .int .i64 x.stamp, .string x.data] 47)) = w1 at *
  clear d0 d1 d2 d3 d4 d5 d6 f0 f1 f2 f3 f4 f5 f6
  refine (Same_c w1 x e).mono ?_
  rintro q w2 ⟨rfl, b2⟩
  go_wp2_with fail
  go_ret
  exact ⟨rfl, b0.trans (b2.mono b0.size)⟩

end Go.Proofs.Ytnpobagipgephaa
