/- How the exact laws over runs end; AllFree of both sides. -/
import Derived.Test.YtdiejmebodpjeaaMw7
namespace Go.Proofs.Ytdiejmebodpjeaa
open Go.RowKit Pr

theorem ownApart {v v' : Value} {a b c d : Nat} (h : ∀ k, v.ownBlock = some k → a ≤ k ∧ k < b) (h' : ∀ k, v'.ownBlock = some k → c ≤ k ∧ k < d) (hd : b ≤ c ∨ d ≤ a) : v.ownBlock = none ∨ v.ownBlock ≠ v'.ownBlock := by
  cases hq : v.ownBlock with
  | none => exact .inl rfl
  | some k =>
    refine .inr fun e => ?_
    have h1 := h k hq
    have h2 := h' k e.symm
    omega
theorem Own.kept {w w' : World} {B : Nat} {v : Value} {zs : List Int} {row : Option Nat} (h : Own w B v zs) (hg : w.grownBy w' row) (hne : v.ownBlock = none ∨ v.ownBlock ≠ row) : Own w' B v zs := World.ownsRow.kept h hg hne
theorem ownSwap {v u : Value} (h : v.ownBlock = none ∨ v.ownBlock ≠ u.ownBlock) : u.ownBlock = none ∨ u.ownBlock ≠ v.ownBlock := by
  cases hu : u.ownBlock with
  | none => exact .inl rfl
  | some k =>
    refine .inr fun e => ?_
    rcases h with h | h
    · rw [h] at e; cases e
    · exact h (by rw [hu, e])
theorem OwnR.nil (w : World) (B : Nat) : OwnR w B (.slice none 0 0) [] := ⟨rfl, .inl ⟨rfl, rfl⟩⟩
theorem Own.nil (w : World) (B : Nat) : Own w B (.slice none 0 0) [] := ⟨rfl, .inl ⟨rfl, rfl⟩⟩
/-- A list of runs of its own, a number and a bool. -/
def End3 (ts : List R) (p : Int) (ok : Bool) (w : World) (e : Ending) (w' : World) : Prop := ∃ v', e = .returned (.tuple #[v', .int .i64 p, .bool ok]) ∧ OwnR w' w.heap.size v' ts ∧ Below w.heap.size w w'
def End2 (ts : List R) (ok : Bool) (w : World) (e : Ending) (w' : World) : Prop := ∃ v', e = .returned (.tuple #[v', .bool ok]) ∧ OwnR w' w.heap.size v' ts ∧ Below w.heap.size w w'
def End1 (ts : List R) (w : World) (e : Ending) (w' : World) : Prop := ∃ v', e = .returned v' ∧ OwnR w' w.heap.size v' ts ∧ Below w.heap.size w w'
def EndP (ts : List R) (zs : List Int) (ok : Bool) (w : World) (e : Ending) (w' : World) : Prop := ∃ v' u', e = .returned (.tuple #[v', u', .bool ok]) ∧ OwnR w' w.heap.size v' ts ∧ Own w' w.heap.size u' zs ∧ (v'.ownBlock = none ∨ v'.ownBlock ≠ u'.ownBlock) ∧ Below w.heap.size w w'
theorem c_eqRuns_same (va vb : Value) (zs : List R) (w : World) (ha : RunsAt w va zs) (hb : RunsAt w vb zs) (hm : zs.length ≤ 1048576) : Calls Try.prog 35 #[va, vb] w fun e w' => e = .returned (.bool true) ∧ Below w.heap.size w w' :=
  (c_eqRunS va vb zs zs w ha hb (by omega)).mono fun _ _ ⟨he, hb⟩ => ⟨he.trans (r_b (decide_eq_true rfl)), hb⟩
theorem c_eqInts_same (va vb : Value) (zs : List Int) (w : World) (ha : IntsAt w va zs) (hb : IntsAt w vb zs) (hm : zs.length ≤ 1000) : Calls Try.prog 39 #[va, vb] w fun e w' => e = .returned (.bool true) ∧ Below w.heap.size w w' :=
  (c_eqIntS va vb zs zs w ha hb (by omega)).mono fun _ _ ⟨he, n, hw⟩ => ⟨he.trans (r_b (decide_eq_true rfl)), by rw [hw]; exact below_drewN (Below.refl _ _) n⟩
theorem own_one (w : World) (r1 r2 : Int) : OwnR (w.alloc (.cells #[.int .i64 r1, .int .i64 r2] 33)) w.heap.size (.slice (some ⟨w.heap.size, 0, none⟩) 1 1) [(r1, r2)] :=
  ⟨rfl, .inr ⟨w.heap.size, 1, _, rfl, Nat.le_refl _, Row.new w _ _, Nat.le_refl _, by unfold maxLen; omega, rfl, rfl⟩⟩
theorem c_AllFree (w : World) : Calls Try.prog 31 #[] w (End1 [(0, 32)] w) := by
  go_enter Try.func31, Try.ntmps31
  go_wp2
  go_ret
  exact ⟨_, rfl, own_one w 0 32, below1 w _⟩
theorem s_AllFree (w : World) : Calls Try.prog 32 #[] w (End1 [(0, 32)] w) := by
  go_enter Try.func32, Try.ntmps32
  go_wp2
  go_ret
  exact ⟨_, rfl, own_one w 0 32, below1 w _⟩
end Go.Proofs.Ytdiejmebodpjeaa
