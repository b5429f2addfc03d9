/- The reference's copy of a heap: its loop's states. -/
import Derived.Test.YtdagkbgobnaijabHs5
namespace Go.Proofs.Ytdagkbgobnaijab
open Go.RowKit Ph

theorem src_one (W : World) (y : Value) (hy : y.oneCell' = true) : SrcAt (W.alloc (.cells #[y] 25)) (.slice (some ⟨W.heap.size, 0, none⟩) 1 1) [y] :=
  ⟨_, 1, rfl, fun u hu => by simp at hu; rw [hu]; exact hy, fun _ => ⟨W.heap.size, 0, rfl, fun j hj => by simp at hj; subst hj; exact Row.cell (Row.new W 25 #[y]) 0⟩⟩
structure Lp (w W : World) (gC hi0 : Nat) (A B C : Value) (h : H) : Prop where
  rw' : RowH W gC A B C
  ow : OwnH W w.heap.size hi0 A B C h
  r2 : RowH W (w.heap.size + 1) (.slice none 0 0) (.slice none 0 0) (.slice none 0 0)
  l : Below w.heap.size w W
  hi : hi0 ≤ W.heap.size
  lo : w.heap.size + 2 ≤ hi0
section
variable {w W : World} {gC hi0 : Nat} {A B C : Value} {h : H}
theorem Lp.alloc (k : Lp w W gC hi0 A B C h) (o : Obj) : Lp w (W.alloc o) gC hi0 A B C h :=
  ⟨Row.alloc k.rw' o, k.ow.below (below1 W o), Row.alloc k.r2 o, k.l.alloc (by have := k.hi; have := k.lo; omega) o, by have := k.hi; simp; omega, k.lo⟩
theorem Lp.app {x y : Value} {zs : List Int} (k : Lp w W gC hi0 A B C h) (e : W.ownsRow hi0 3 1 y 0 []) (hs : IntsAt w x zs) (hm : zs.length ≤ 1048576) (ty : TypeId) :
    ∃ v' W', (Builtin.append_ #[25, 25] ty #[y, x]).run Try.prog W = .ok v' W' ∧ Lp w W' gC hi0 A B C h ∧ Own W' hi0 v' zs := by
  obtain ⟨i0, hi, hz0, hz1, hz2⟩ := info_parts info_int
  obtain ⟨v', W', hr, h1, h2, _⟩ := run_appOwn (P := Try.prog) W hi0 25 ty 3 i0 (.int .i64 0) 8 Try.underlying25 hi hz0 hz1 hz2 rfl y 0 [] e x _ (hs.below k.l).src (by rw [List.length_map]; unfold maxLen; omega) (by rw [List.length_map]; omega) k.hi
  rw [List.nil_append, Nat.zero_add, List.length_map] at h1
  have hlo := k.lo
  have hch : Chg hi0 W.heap.size W W' := Chg.of_grown h2 fun g hg => owns_lt e hg
  refine ⟨v', W', hr, ⟨row_grown e (by decide) h2 k.rw', k.ow.chg hch (.inl (Nat.le_refl _)), row_grown e (by decide) h2 k.r2, below_chg k.l hch (by omega) (by have := k.hi; omega), Nat.le_trans k.hi h2.size, k.lo⟩, h1⟩
theorem Lp.grow {y z : Value} {zs : List Int} (k : Lp w W gC hi0 A B C h) (e : Own W hi0 y zs) (hz : SrcAt W z [y]) (hn : h.f.length ≤ 1000) (ty : TypeId) :
    ∃ v' W', (Builtin.append_ #[23, 23] ty #[A, z]).run Try.prog W = .ok v' W' ∧ RowH W' gC A B C ∧ OwnH W' w.heap.size W'.heap.size v' B C ⟨h.f ++ [zs], h.l, h.r⟩ ∧ RowH W' (w.heap.size + 1) (.slice none 0 0) (.slice none 0 0) (.slice none 0 0) ∧ Below w.heap.size w W' ∧ w.heap.size + 2 ≤ W'.heap.size ∧ ∃ pa qa, v' = .slice pa (h.f.length + 1) qa := by
  obtain ⟨i0, hi, hz0, hz1, hz2⟩ := info_parts info_ints
  obtain ⟨us, hf⟩ := k.ow
  have ho := hf.outer
  obtain ⟨v', W', hr, h1, h2, h3⟩ := run_appOwn (P := Try.prog) W w.heap.size 23 ty 25 i0 (.slice none 0 0) 24 Try.underlying23 hi hz0 hz1 hz2 rfl A h.f.length _ ho z [y] hz (by simp; unfold maxLen; omega) (by simp; omega) (by have := k.hi; have := k.lo; omega)
  have hlo := k.lo
  have hhi := k.hi
  have h1' : W'.ownsRow w.heap.size 25 1 v' (h.f.length + 1) ((List.range h.f.length).map us ++ [y]) := h1
  refine ⟨v', W', hr, row_grown ho (by decide) h2 k.rw', ⟨_, hf.growRow (hi1 := W.heap.size) (e.mono (by omega)) (fun g hg => owns_lt e hg) hhi h2 h1' h2.size (fun g hg => ?_)⟩, row_grown ho (by decide) h2 k.r2, grown_below k.l (by omega) ho h2, by have := h2.size; omega, ?_⟩
  · rcases h3 with h3 | h3
    · exact .inr (by rw [← h3]; exact hg)
    · rw [hg] at h3; cases h3; exact .inl ⟨Nat.le_refl _, (owns_lt h1' hg).2⟩
  · rcases h1'.2 with ⟨_, h0⟩ | ⟨g, cap, cur, hv, _⟩
    · omega
    · exact ⟨_, _, hv⟩
end
end Go.Proofs.Ytdagkbgobnaijab
