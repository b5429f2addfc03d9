/- The laws' helpers over spans that the drawn laws call. -/
import Derived.Test.YtcelebblcjhpaaaDoorDf4
import Derived.Test.YtcelebblcjhpaaaDoorDr7
namespace Go.Proofs.YtcelebblcjhpaaaDoor
open Go.RowKit Pb

set_option maxHeartbeats 1600000 in
theorem c_sameSpan (f c l : Int) (va vb : Value) (zs : List Int) (w : World) (ha : IntsAt w va zs) (hb : IntsAt w vb zs) (hm : zs.length ≤ 9223372036854775806) : Ans 15 #[sp f c l va, sp f c l vb] (.bool true) w := by
  have HB := Lib.hid (((Below.refl w.heap.size w).alloc (Nat.le_refl _) (.cells (c4 f c l va) 27)).alloc (by simp) (.cells (c4 f c l vb) 27))
  have va' := Lib.hid (ha.below HB.out)
  have vb' := Lib.hid (hb.below HB.out)
  clear ha hb
  unfold Ans
  go_enter Tryd.func15, Tryd.ntmps15
  go_wp2_with fail
  refine (c_sameBits l l va vb zs zs _ va'.out vb'.out hm).mono ?_
  rintro e w1 ⟨rfl, hb1⟩
  rw [decide_eq_true (And.intro rfl rfl)]
  have B1 := Lib.hid (bst HB.out hb1 HB.out.size)
  clear hb1
  go_wp2
  go_ret
  exact ⟨rfl, B1.out⟩
/-- What a slice holds, where it holds something. -/
def Holds (w : World) (g : Option Addr) (n : Nat) (zs : List Int) : Prop := 0 < n → ∃ b off, g = some ⟨b, off, none⟩ ∧ ∀ i, i < n → w.cell? ⟨b, off + i, none⟩ = some (.int .i64 (zs.getD i 0))
theorem Own.holds {w : World} {B n c : Nat} {g : Option Addr} {zs : List Int} (h : Own w B (.slice g n c) zs) : Holds w g n zs := by
  obtain ⟨a, ca, e, hc⟩ := h.ints
  injection e with e1 e2 e3
  subst e1; subst e2
  exact hc
end Go.Proofs.YtcelebblcjhpaaaDoor
