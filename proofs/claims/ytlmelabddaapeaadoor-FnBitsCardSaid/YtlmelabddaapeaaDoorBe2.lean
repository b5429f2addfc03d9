/- How the laws whose answer is a list end. -/
import Derived.Test.YtlmelabddaapeaaDoorBe1
namespace Go.Proofs.YtlmelabddaapeaaDoor
open Go.RowKit Pb

/-- A list of its own, and a bool. -/
def IntsEnd (rs : List Int) (ok : Bool) (w : World) (e : Ending) (w' : World) : Prop := ∃ v', e = .returned (.tuple #[v', .bool ok]) ∧ Own w' w.heap.size v' rs ∧ Below w.heap.size w w'
theorem intsEnd_none {w w' : World} {e : Ending} (he : e = .returned (.tuple #[.slice none 0 0, .bool false])) (hb : Below w.heap.size w w') : IntsEnd [] false w e w' := ⟨_, he, ⟨rfl, .inl ⟨rfl, rfl⟩⟩, hb⟩
theorem c_eqInts_same (va vb : Value) (zs : List Int) (w : World) (ha : IntsAt w va zs) (hb : IntsAt w vb zs) (hm : zs.length ≤ 1000) : Calls Tryd.prog 38 #[va, vb] w fun e w' => e = .returned (.bool true) ∧ Below w.heap.size w w' :=
  (c_eqIntS va vb zs zs w ha hb (by omega)).mono fun _ _ ⟨he, n, hw⟩ => ⟨he.trans (r_b (decide_eq_true rfl)), by rw [hw]; exact below_drewN (Below.refl _ _) n⟩
end Go.Proofs.YtlmelabddaapeaaDoor
