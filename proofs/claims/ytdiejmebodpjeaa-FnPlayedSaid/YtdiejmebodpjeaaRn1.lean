/- Slices of runs: how they read, what a call owns of them; the laws' own helpers over them. -/
import Derived.Test.YtdiejmebodpjeaaGb
import Derived.WalkKit
import Derived.WalkSpells
import Derived.WalkLawsBesides
import Derived.Lib.Hide
import Derived.Deep.RegionHeld3
import Derived.RegionTactic
namespace Go.Proofs.Ytdiejmebodpjeaa
open Go.RowKit

/-- A run by value. -/
abbrev rn (r : Int × Int) : Value := .agg #[.int .i64 r.1, .int .i64 r.2]
abbrev cr (r : Int × Int) : Array Value := #[.int .i64 r.1, .int .i64 r.2]
/-- The slice value v reads, in the world w, as the list rs of runs. -/
def RunsAt (w : World) (v : Value) (rs : List (Int × Int)) : Prop :=
  ∃ a cap, v = .slice a rs.length cap ∧ (0 < rs.length → ∃ b off, a = some ⟨b, off, none⟩ ∧ ∀ i, i < rs.length → w.cell? ⟨b, off + i * 2, none⟩ = some (.int .i64 (rs.getD i (0, 0)).1) ∧ w.cell? ⟨b, off + i * 2 + 1, none⟩ = some (.int .i64 (rs.getD i (0, 0)).2))
theorem RunsAt.below {w w' : World} {v : Value} {rs : List (Int × Int)} (h : RunsAt w v rs) (hb : Below w.heap.size w w') : RunsAt w' v rs := by
  obtain ⟨a, cap, hv, hc⟩ := h
  refine ⟨a, cap, hv, fun h0 => ?_⟩
  obtain ⟨b, off, ha, hc⟩ := hc h0
  refine ⟨b, off, ha, fun i hi => ?_⟩
  obtain ⟨h1, h2⟩ := hc i hi
  rw [hb.cell (p := ⟨b, off + i * 2, none⟩) (block_lt_of_cell h1), hb.cell (p := ⟨b, off + i * 2 + 1, none⟩) (block_lt_of_cell h2)]
  exact ⟨h1, h2⟩
/-- The cells of a list of runs. -/
def flat (rs : List (Int × Int)) : List Value := rs.flatMap fun r => [.int .i64 r.1, .int .i64 r.2]
theorem flat_nil : flat [] = [] := rfl
theorem flat_cons (r : Int × Int) (rs : List (Int × Int)) : flat (r :: rs) = .int .i64 r.1 :: .int .i64 r.2 :: flat rs := rfl
theorem flat_append (rs ss : List (Int × Int)) : flat (rs ++ ss) = flat rs ++ flat ss := by simp [flat]
theorem flat_length (rs : List (Int × Int)) : (flat rs).length = rs.length * 2 := by
  induction rs with
  | nil => rfl
  | cons r rs ih => rw [flat_cons]; simp [ih]; omega
theorem flat_get0 : ∀ (rs : List (Int × Int)) (i : Nat), i < rs.length → (flat rs)[i * 2]? = some (.int .i64 (rs.getD i (0, 0)).1)
  | [], i, h => by simp at h
  | r :: rs, 0, _ => by simp [flat_cons]
  | r :: rs, i + 1, h => by
    have := flat_get0 rs i (by simpa using h)
    rw [flat_cons, show (i + 1) * 2 = i * 2 + 1 + 1 by omega]
    simpa using this
theorem flat_get1 : ∀ (rs : List (Int × Int)) (i : Nat), i < rs.length → (flat rs)[i * 2 + 1]? = some (.int .i64 (rs.getD i (0, 0)).2)
  | [], i, h => by simp at h
  | r :: rs, 0, _ => by simp [flat_cons]
  | r :: rs, i + 1, h => by
    have := flat_get1 rs i (by simpa using h)
    rw [flat_cons, show (i + 1) * 2 + 1 = (i * 2 + 1) + 1 + 1 by omega]
    simpa using this
theorem flat_set0 : ∀ (rs : List (Int × Int)) (i : Nat) (x : Int), i < rs.length → (flat rs).set (i * 2) (.int .i64 x) = flat (rs.set i (x, (rs.getD i (0, 0)).2))
  | [], i, x, h => by simp at h
  | r :: rs, 0, x, _ => by simp [flat_cons]
  | r :: rs, i + 1, x, h => by
    have := flat_set0 rs i x (by simpa using h)
    rw [flat_cons, show (i + 1) * 2 = i * 2 + 1 + 1 by omega]
    simp only [List.set_cons_succ, flat_cons, this, List.getD_cons_succ]
theorem flat_set1 : ∀ (rs : List (Int × Int)) (i : Nat) (x : Int), i < rs.length → (flat rs).set (i * 2 + 1) (.int .i64 x) = flat (rs.set i ((rs.getD i (0, 0)).1, x))
  | [], i, x, h => by simp at h
  | r :: rs, 0, x, _ => by simp [flat_cons]
  | r :: rs, i + 1, x, h => by
    have := flat_set1 rs i x (by simpa using h)
    rw [flat_cons, show (i + 1) * 2 + 1 = (i * 2 + 1) + 1 + 1 by omega]
    simp only [List.set_cons_succ, flat_cons, this, List.getD_cons_succ]
/-- A row of runs that the call itself has made. -/
def OwnR (w : World) (B : Nat) (v : Value) (rs : List (Int × Int)) : Prop := w.ownsRow B 33 2 v rs.length (flat rs)
theorem OwnR.runs {w : World} {B : Nat} {v : Value} {rs : List (Int × Int)} (h : OwnR w B v rs) : RunsAt w v rs := by
  have h' := h
  obtain ⟨h1, h2⟩ := h
  rcases h2 with ⟨rfl, h2⟩ | ⟨g, cap, cur, rfl, hg, hh, _⟩
  · exact ⟨none, 0, by rw [h2], fun h => by omega⟩
  · refine ⟨_, cap, rfl, fun _ => ⟨g, 0, rfl, fun i hi => ?_⟩⟩
    rw [Nat.zero_add, World.ownsRow.cellAt h' _ (by omega), World.ownsRow.cellAt h' _ (by omega)]
    exact ⟨flat_get0 rs i hi, flat_get1 rs i hi⟩
theorem OwnR.below {w w' : World} {B : Nat} {v : Value} {rs : List (Int × Int)} (h : OwnR w B v rs) (hb : Below w.heap.size w w') : OwnR w' B v rs := by
  obtain ⟨h1, h2⟩ := h
  refine ⟨h1, ?_⟩
  rcases h2 with h2 | ⟨g, cap, cur, hv, hg, hh, r⟩
  · exact .inl h2
  · have hlt : g < w.heap.size := by
      by_cases e : g < w.heap.size
      · exact e
      · have hn : w.heap[g]? = none := by simp; omega
        simp [hn] at hh
    exact .inr ⟨g, cap, cur, hv, hg, by rw [hb.block g hlt]; exact hh, r⟩
theorem OwnR.mono {w : World} {B B' : Nat} {v : Value} {rs : List (Int × Int)} (h : OwnR w B v rs) (hB : B' ≤ B) : OwnR w B' v rs := by
  obtain ⟨h1, h2⟩ := h
  refine ⟨h1, ?_⟩
  rcases h2 with h2 | ⟨g, cap, cur, hv, hg, r⟩
  · exact .inl h2
  · exact .inr ⟨g, cap, cur, hv, by omega, r⟩
theorem OwnR.shape {w : World} {B : Nat} {v : Value} {rs : List (Int × Int)} (h : OwnR w B v rs) : ∃ g c, v = .slice g rs.length c ∧ (∀ a, g = some a → B ≤ a.block) := by
  obtain ⟨h1, h2⟩ := h
  rcases h2 with ⟨rfl, h2⟩ | ⟨g, cap, cur, rfl, hg, hh, _⟩
  · exact ⟨none, 0, by rw [h2], fun a ha => by cases ha⟩
  · exact ⟨_, _, rfl, fun a ha => by cases ha; exact hg⟩
theorem OwnR.kept {w w' : World} {B : Nat} {v : Value} {rs : List (Int × Int)} {row : Option Nat} (h : OwnR w B v rs) (hg : w.grownBy w' row) (hne : v.ownBlock = none ∨ v.ownBlock ≠ row) : OwnR w' B v rs := World.ownsRow.kept h hg hne
theorem info_run : (Try.prog.info? 33).map (·.size) = some 2 := by kernel_rfl
theorem c_szRunS_yes (a : Option Addr) (n c : Nat) (left : Int) (w : World) (h1 : left ≤ 1048576) (h : (n : Int) ≤ left) : Calls Try.prog 33 #[.slice a n c, .int .i64 left] w fun e w' => e = .returned (.int .i64 (left - n)) ∧ w = w' := by
  have h2 : ¬ left - (n : Int) < 0 := by omega
  go_enter Try.func33, Try.ntmps33
  go_wp2
  go_ret
  exact ⟨rfl, rfl⟩
theorem c_szRunS_no (a : Option Addr) (n c : Nat) (left : Int) (w : World) (h0 : 0 ≤ left) (h1 : left ≤ 1048576) (hn : n ≤ 9223372036854775807) (h : left < (n : Int)) : Calls Try.prog 33 #[.slice a n c, .int .i64 left] w fun e w' => e = .returned (.int .i64 (-1)) ∧ w = w' := by
  have h2 : left - (n : Int) < 0 := by omega
  go_enter Try.func33, Try.ntmps33
  go_wp2
  go_ret
  exact ⟨rfl, rfl⟩
set_option maxHeartbeats 400000 in
theorem c_eqRun (a b : Int × Int) (w : World) : Calls Try.prog 58 #[rn a, rn b] w fun e w' => e = .returned (.bool (decide (a = b))) ∧ Below w.heap.size w w' := by
  obtain ⟨a1, a2⟩ := a
  obtain ⟨b1, b2⟩ := b
  have HB := Lib.hid (((Below.refl w.heap.size w).alloc (Nat.le_refl _) (.cells (cr (a1, a2)) 33)).alloc (by simp) (.cells (cr (b1, b2)) 33))
  by_cases h1 : a1 = b1
  · subst h1
    have e1 : (a1 != a1) = false := by simp
    by_cases h2 : a2 = b2
    · subst h2
      have e2 : (a2 != a2) = false := by simp
      go_enter Try.func58, Try.ntmps58
      go_wp2
      go_ret
      exact ⟨r_b (by simp), HB.out⟩
    · have e2 : (a2 != b2) = true := by rw [bne_iff_ne]; exact h2
      have HE : Hid (decide ((a1, a2) = (a1, b2)) = false) := decide_eq_false (fun h => h2 (by simpa using h))
      clear h2
      go_enter Try.func58, Try.ntmps58
      go_wp2
      go_ret
      exact ⟨r_b HE.out.symm, HB.out⟩
  · have e1 : (a1 != b1) = true := by rw [bne_iff_ne]; exact h1
    have HE : Hid (decide ((a1, a2) = (b1, b2)) = false) := decide_eq_false (fun h => h1 (by simp at h; exact h.1))
    clear h1
    go_enter Try.func58, Try.ntmps58
    go_wp2
    go_ret
    exact ⟨r_b HE.out.symm, HB.out⟩
set_option maxHeartbeats 400000 in
theorem c_toRun (a : Int × Int) (w : World) : Calls Try.prog 38 #[rn a] w fun e w' => e = .returned (rn a) ∧ Below w.heap.size w w' := by
  obtain ⟨a1, a2⟩ := a
  go_enter Try.func38, Try.ntmps38
  go_wp2
  refine bodyPost_ret (res_row Try.results38 (Row.alloc (Row.new1 w _ 33 (cr (a1, a2))) _) rfl Try.underlying33 rfl info_run) rfl ⟨rfl, ?_⟩
  exact ((((Below.refl _ _).alloc (Nat.le_refl _) _).alloc (by simp) _).alloc (by simp; omega) _)
end Go.Proofs.Ytdiejmebodpjeaa
