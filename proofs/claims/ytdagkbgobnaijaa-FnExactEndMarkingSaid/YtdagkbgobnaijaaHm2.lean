/- The project's sameFields. -/
import Derived.Test.YtdagkbgobnaijaaHm1
namespace Go.Proofs.Ytdagkbgobnaijaa.Ph
def sfB (a b : H) (ts : List Bool) (n : Nat) : Bool := (List.range n).all fun k => !(ts.getD k false) || (liveB b.l (k : Int) && decide (a.f.getD k [] = b.f.getD k []))
theorem sfB_succ {a b : H} {ts : List Bool} {n : Nat} : sfB a b ts (n + 1) = (sfB a b ts n && (!(ts.getD n false) || (liveB b.l (n : Int) && decide (a.f.getD n [] = b.f.getD n [])))) := by simp [sfB, List.range_succ]
theorem sfB_false {a b : H} {ts : List Bool} {n k : Nat} (h : k < n) (hn : (!(ts.getD k false) || (liveB b.l (k : Int) && decide (a.f.getD k [] = b.f.getD k []))) = false) : sfB a b ts n = false := by
  cases hq : sfB a b ts n with
  | false => rfl
  | true =>
    have := (List.all_eq_true.1 hq) k (by simpa using h)
    rw [hn] at this; cases this
end Go.Proofs.Ytdagkbgobnaijaa.Ph
namespace Go.Proofs.Ytdagkbgobnaijaa
open Go.RowKit Ph

end Go.Proofs.Ytdagkbgobnaijaa
