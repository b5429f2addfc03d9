/- The two tables that the laws of chapter 4 read. -/
import Derived.Test.YtcelebblcjhpaaaDoorCtr1
import Derived.Test.YtcelebblcjhpaaaDoorBd1
namespace Go.Proofs.YtcelebblcjhpaaaDoor
open Go.RowKit
def Tabs (w : World) : Prop := TabW w ∧ TabB w
theorem Tabs.below {w w' : World} (h : Tabs w) (hb : Below w.heap.size w w') : Tabs w' := ⟨h.1.below hb h.1.pos, h.2.below hb⟩
end Go.Proofs.YtcelebblcjhpaaaDoor
