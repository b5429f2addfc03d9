/- What the laws of chapter 2 draw: bitmaps. -/
import Derived.Test.YtcelebblcjhpaaaDoorCur
import Derived.Test.YtcelebblcjhpaaaDoorBs5
import Derived.Deep.RegionHeld3
import Derived.IntWalk
namespace Go.Proofs.YtcelebblcjhpaaaDoor
open Go.RowKit Pb

/-- SetRun of the reference, whatever it answers: a bitmap of its own, no longer than what came in. -/
def RunEnd (n : Nat) (w : World) (e : Ending) (w' : World) : Prop := ∃ (lr : Int) (v' : Value) (rs : List Int) (ok : Bool), e = .returned (.tuple #[bm lr v', .bool ok]) ∧ rs.length ≤ n ∧ (0 ≤ lr ∧ lr ≤ 96) ∧ Own w' w.heap.size v' rs ∧ Below w.heap.size w w'
theorem c_sSetRun_any (long : Int) (v : Value) (zs : List Int) (a b : Int) (on : Bool) (w : World) (hv : IntsAt w v zs) : Calls Tryd.prog 103 #[bm long v, .int .i64 a, .int .i64 b, .bool on] w (RunEnd zs.length w) := by
  by_cases h : Bok long zs ∧ InRun long a b
  · obtain ⟨hB, hR⟩ := h
    obtain ⟨m, rfl⟩ : ∃ m : Nat, a = m := ⟨a.toNat, by have := hR.1; omega⟩
    obtain ⟨k, rfl⟩ : ∃ k : Nat, b = k := ⟨b.toNat, by have := hR.1; have := hR.2.1; omega⟩
    exact (c_sSetRun_yes long v zs m k on w hv hB hR).mono fun e w' ⟨v', he, ho, hb⟩ => ⟨long, v', _, true, he, by rw [runL_length]; exact Nat.le_refl _, ⟨hB.1, hB.2.1⟩, ho, hb⟩
  · exact (c_sSetRun_no long v zs a b on w hv h).mono fun e w' ⟨he, hb⟩ => ⟨0, _, [], false, he, by simp, ⟨by omega, by omega⟩, ⟨rfl, .inl ⟨rfl, rfl⟩⟩, hb⟩
theorem c_sNewBits_any (long : Int) (w : World) : Calls Tryd.prog 74 #[.int .i64 long] w (RunEnd 6 w) := by
  by_cases h : 0 ≤ long ∧ long ≤ 96
  · exact (c_sNewBits_yes long w h.1 h.2).mono fun e w' ⟨v', he, ho, hb⟩ => ⟨long, v', _, true, he, by rw [wl_length]; omega, h, ho, hb⟩
  · exact (c_sNewBits_no long w h).mono fun e w' ⟨he, hb⟩ => ⟨0, _, [], false, he, by simp, ⟨by omega, by omega⟩, ⟨rfl, .inl ⟨rfl, rfl⟩⟩, hb⟩

theorem grownBy_of_below {w w' : World} (h : Below w.heap.size w w') (r : Option Nat) : w.grownBy w' r := ⟨h.os, h.tape, h.output, h.size, fun i hi _ => h.block i hi⟩
theorem grownBy_setNew {w X : World} {r : Option Nat} (h : w.grownBy X r) (p : Addr) (hp : w.heap.size ≤ p.block) (v : Value) : w.grownBy (X.setCell p v) r := by
  refine ⟨h.os, h.tape, h.output, ?_, fun i hi hr => ?_⟩
  · have := h.size
    simpa [World.setCell] using this
  · rw [heap_setCell_other X p i _ (by omega)]
    exact h.block i hi hr
theorem grownBy_drew {w X : World} {r : Option Nat} (h : w.grownBy X r) : w.grownBy X.drew r := ⟨h.os, h.tape, h.output, h.size, h.block⟩
theorem grownBy_alloc' {w X : World} {r : Option Nat} (h : w.grownBy X r) (o : Obj) : w.grownBy (X.alloc o) r := grownBy_trans h (World.grownBy_alloc _ _ _)
theorem grownBy_step {w X Y : World} {r : Option Nat} (h : w.grownBy X r) (k : Below X.heap.size X Y) : w.grownBy Y r := grownBy_trans h (grownBy_of_below k r)
theorem own_up {w w' : World} {B : Nat} {v : Value} {zs : List Int} {c : Nat} (h : Own w B v zs) (hg : w.grownBy w' (some c)) (hc : c < B) : Own w' B v zs := World.ownsRow.kept h hg (by
  cases hq : v.ownBlock with
  | none => exact .inl rfl
  | some k => exact .inr (by have := (World.ownsRow.lt h k hq).1; simp; omega))
end Go.Proofs.YtcelebblcjhpaaaDoor
