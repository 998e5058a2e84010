/- The zero entry; an entry's cells in the program. -/
import Derived.Test.YtkpgijmpaklfgaaRows
import Derived.Test.YtkpgijmpaklfgaaEnt
namespace Go.Proofs.Ytkpgijmpaklfgaa
open Go.RowKit

/-- No entry: all zero. -/
def zeroE : Ent := ⟨0, 0, 0, 0, 0, 0, ⟨#[]⟩⟩
theorem ent_info : (Try.prog.info? 30).map (fun i => (i.zero, i.size, i.bytes)) = some (some (ev zeroE), 7, 64) := by kernel_rfl

end Go.Proofs.Ytkpgijmpaklfgaa
