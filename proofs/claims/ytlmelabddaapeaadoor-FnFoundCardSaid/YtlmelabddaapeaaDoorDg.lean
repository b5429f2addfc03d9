/- Small helpers of the walks of the drawn laws of chapter 2. -/
import Derived.Test.YtlmelabddaapeaaDoorDf
import Derived.Test.YtlmelabddaapeaaDoorDr7
namespace Go.Proofs.YtlmelabddaapeaaDoor
open Go.RowKit Pb

theorem Ans.go {f : FuncId} {args : Array Value} {v : Value} {w : World} {Q : Ending → World → Prop} (h : Ans f args v w) (k : ∀ w', Below w.heap.size w w' → Q (.returned v) w') : Calls Tryd.prog f args w Q :=
  Calls.mono h fun e w' ⟨he, hb⟩ => by subst he; exact k w' hb
theorem same_true (l : Int) (va vb : Value) (zs : List Int) (w : World) (hA : IntsAt w va zs) (hB : IntsAt w vb zs) (hm : zs.length ≤ 9223372036854775806) : Ans 10 #[bm l va, bm l vb] (.bool true) w := by
  have := c_sameBits l l va vb zs zs w hA hB hm
  rwa [decide_eq_true (And.intro rfl rfl)] at this
theorem same_ints (va vb : Value) (zs : List Int) (w : World) (hA : IntsAt w va zs) (hB : IntsAt w vb zs) (hm : zs.length ≤ 9223372036854775806) : Ans 25 #[va, vb] (.bool true) w := by
  refine Calls.mono (c_sameInts va vb zs zs w hA hB hm) ?_
  rintro e w' ⟨rfl, n, rfl⟩
  exact ⟨by rw [decide_eq_true rfl], below_drewN (Below.refl _ _) n⟩
/-- What a slice holds, where it holds something. -/
def Holds (w : World) (g : Option Addr) (n : Nat) (zs : List Int) : Prop := 0 < n → ∃ b off, g = some ⟨b, off, none⟩ ∧ ∀ i, i < n → w.cell? ⟨b, off + i, none⟩ = some (.int .i64 (zs.getD i 0))
theorem Own.holds {w : World} {B n c : Nat} {g : Option Addr} {zs : List Int} (h : Own w B (.slice g n c) zs) : Holds w g n zs := by
  obtain ⟨a, ca, e, hc⟩ := h.ints
  injection e with e1 e2 e3
  subst e1; subst e2
  exact hc
end Go.Proofs.YtlmelabddaapeaaDoor
