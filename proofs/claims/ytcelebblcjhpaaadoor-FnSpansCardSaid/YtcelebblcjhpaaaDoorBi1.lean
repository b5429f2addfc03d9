/- Contracts of chapter 2: the project's own functions. -/
import Derived.Test.YtcelebblcjhpaaaDoorBw5
import Derived.Deep.RegionWith
namespace Go.Proofs.YtcelebblcjhpaaaDoor
open Go.RowKit Pb

end Go.Proofs.YtcelebblcjhpaaaDoor
