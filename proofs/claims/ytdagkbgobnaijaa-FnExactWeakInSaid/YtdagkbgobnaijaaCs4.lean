/- The reference's IsSound. -/
import Derived.Test.YtdagkbgobnaijaaCc5
namespace Go.Proofs.Ytdagkbgobnaijaa
open Go.RowKit Ph

end Go.Proofs.Ytdagkbgobnaijaa
