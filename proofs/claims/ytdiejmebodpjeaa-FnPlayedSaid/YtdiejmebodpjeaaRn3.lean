/- The project's and the reference's checks of lists of runs, sums and greatest lengths. -/
import Derived.Test.YtdiejmebodpjeaaRn2
import Derived.Test.YtdiejmebodpjeaaPr
namespace Go.Proofs.Ytdiejmebodpjeaa
open Go.RowKit Pr

def i64R (r : Int × Int) : Prop := (-9223372036854775808 ≤ r.1 ∧ r.1 ≤ 9223372036854775807) ∧ (-9223372036854775808 ≤ r.2 ∧ r.2 ≤ 9223372036854775807)
def Bnd (rs : List (Int × Int)) : Prop := ∀ r ∈ rs, i64R r
theorem Bnd.at {rs : List (Int × Int)} (h : Bnd rs) (k : Nat) : i64R (rs.getD k (0, 0)) := by
  by_cases e : k < rs.length
  · exact h _ (getD_mem e)
  · have : rs.getD k (0, 0) = (0, 0) := by simp [List.getD, List.getElem?_eq_none (show rs.length ≤ k by omega)]
    rw [this]; simp [i64R]
theorem Bnd.good {rs : List (Int × Int)} (h : good 0 rs = true) : Bnd rs := fun r hr => by
  have := (okR_iff _).1 (good_mem h r hr).1
  unfold i64R; omega
theorem cellBelow' {w w' : World} {p : Addr} {x : Value} (hb : Below w.heap.size w w') (h : w.cell? p = some x) : w'.cell? p = some x := cellBelow hb h
theorem below1 (w : World) (o : Obj) : Below w.heap.size w (w.alloc o) := (Below.refl _ _).alloc (Nat.le_refl _) _

set_option maxHeartbeats 400000 in
theorem c_isPageRun (a : Int × Int) (w : World) (hb : i64R a) : Calls Try.prog 49 #[rn a] w fun e w' => e = .returned (.bool (okR a)) ∧ Below w.heap.size w w' := by
  obtain ⟨a1, a2⟩ := a
  obtain ⟨⟨b1, b2⟩, b3, b4⟩ := hb
  simp only [] at b1 b2 b3 b4
  have HB := Lib.hid (below1 w (.cells (cr (a1, a2)) 33))
  have HR : Hid (okR (a1, a2) = (decide (0 ≤ a1) && (decide (1 ≤ a2) && decide (a1 + a2 ≤ 32)))) := rfl
  by_cases h1 : 0 ≤ a1
  · by_cases h2 : 1 ≤ a2
    · by_cases h3 : a1 ≤ 32 - a2
      · have HE : Hid (okR (a1, a2) = true) := by unfold Hid; rw [HR.out]; simp [h1, h2]; omega
        go_enter Try.func49, Try.ntmps49
        go_wp2
        go_ret
        exact ⟨r_b HE.out.symm, HB.out⟩
      · have HE : Hid (okR (a1, a2) = false) := by unfold Hid; rw [HR.out]; simp [h1, h2]; omega
        go_enter Try.func49, Try.ntmps49
        go_wp2
        go_ret
        exact ⟨r_b HE.out.symm, HB.out⟩
    · have HE : Hid (okR (a1, a2) = false) := by unfold Hid; rw [HR.out]; simp [h1, h2]
      go_enter Try.func49, Try.ntmps49
      go_wp2
      go_ret
      exact ⟨r_b HE.out.symm, HB.out⟩
  · have HE : Hid (okR (a1, a2) = false) := by unfold Hid; rw [HR.out]; simp [h1]
    go_enter Try.func49, Try.ntmps49
    go_wp2
    go_ret
    exact ⟨r_b HE.out.symm, HB.out⟩

theorem c_in_yes (n lo hi : Int) (w : World) (h : lo ≤ n ∧ n ≤ hi) : Calls Try.prog 48 #[.int .i64 n, .int .i64 lo, .int .i64 hi] w fun e w' => e = .returned (.bool true) ∧ w = w' := by
  obtain ⟨h1, h2⟩ := h
  go_enter Try.func48, Try.ntmps48
  go_wp2
  go_ret
  exact ⟨rfl, rfl⟩
theorem c_in_no (n lo hi : Int) (w : World) (h : ¬ (lo ≤ n ∧ n ≤ hi)) : Calls Try.prog 48 #[.int .i64 n, .int .i64 lo, .int .i64 hi] w fun e w' => e = .returned (.bool false) ∧ w = w' := by
  by_cases h1 : lo ≤ n
  · have h2 : ¬ n ≤ hi := fun h2 => h ⟨h1, h2⟩
    clear h
    go_enter Try.func48, Try.ntmps48
    go_wp2
    go_ret
    exact ⟨rfl, rfl⟩
  · clear h
    go_enter Try.func48, Try.ntmps48
    go_wp2
    go_ret
    exact ⟨rfl, rfl⟩
end Go.Proofs.Ytdiejmebodpjeaa
