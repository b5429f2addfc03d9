/- The reference's copy of a heap: its first statement's states. -/
import Derived.Test.YtdagkbgobnaijabHw8
namespace Go.Proofs.Ytdagkbgobnaijab
open Go.RowKit Ph

theorem op_app {P : Program} {o : Oper} {q : Act} {w w' : World} {K : Act → World → Prop} {Q : Exit → Act → World → Prop} {vs vx v' : Value} (s x : Operand) (t : TypeId) (hop : o.op = Op.call { callee := Callee.builtin Builtin.append, args := #[s, x], argTypes := #[t, t] }) (hs : q.eval s = vs) (hx : q.eval x = vx)
    (hrun : (Builtin.append_ #[t, t] o.type #[vs, vx]).run P w = .ok v' w') (h : K (q.put o.dst v') w') : Oper.wp P o q w K Q := by
  unfold Oper.wp
  simp [execOp, hop, resolve, invoke, builtin, hs, hx, hrun, Result.andThen]
  exact h
/-- A copy under way: what is live, and the roots. -/
structure OwnSt (w W : World) (fa la ra vA vB : Value) (lA : List Bool) (rB : List Int) : Prop where
  ow : OwnH W w.heap.size W.heap.size (.slice none 0 0) vA vB ⟨[], lA, rB⟩
  rp : RowH W w.heap.size fa la ra
  r2 : RowH W (w.heap.size + 1) (.slice none 0 0) (.slice none 0 0) (.slice none 0 0)
  l : Below w.heap.size w W
  sz : w.heap.size + 2 ≤ W.heap.size
section
variable {w W : World} {fa la ra vA vB : Value} {lA : List Bool} {rB : List Int}
theorem own_empty (W : World) (T : TypeId) : (W.alloc (.cells #[] T)).ownsRow W.heap.size T 1 (.slice (some ⟨W.heap.size, 0, none⟩) 0 0) 0 [] := ⟨rfl, .inr ⟨W.heap.size, 0, #[], rfl, Nat.le_refl _, heap_alloc_new _ _, Nat.le_refl _, by unfold maxLen; omega, rfl, rfl⟩⟩
theorem OwnSt.allocB (k : OwnSt w W fa la ra (.slice none 0 0) vB [] rB) : OwnSt w (W.alloc (.cells #[] 4)) fa la ra (.slice (some ⟨W.heap.size, 0, none⟩) 0 0) vB [] rB :=
  ⟨(k.ow.below (below1 W _)).addLive (own_empty W 4) (by have := k.sz; omega) (by simp), Row.alloc k.rp _, Row.alloc k.r2 _, k.l.alloc k.l.size _, by have := k.sz; simp; omega⟩
theorem OwnSt.allocI (k : OwnSt w W fa la ra vA (.slice none 0 0) lA []) : OwnSt w (W.alloc (.cells #[] 3)) fa la ra vA (.slice (some ⟨W.heap.size, 0, none⟩) 0 0) lA [] :=
  ⟨(k.ow.below (below1 W _)).addRoots (own_empty W 3) (by have := k.sz; omega) (by simp), Row.alloc k.rp _, Row.alloc k.r2 _, k.l.alloc k.l.size _, by have := k.sz; simp; omega⟩
theorem OwnSt.allocC (k : OwnSt w W fa la ra vA vB lA rB) : OwnSt w (W.alloc (.cells (c3 (.slice none 0 0) (.slice none 0 0) (.slice none 0 0)) 27)) fa la ra vA vB lA rB :=
  ⟨(k.ow.below (below1 W _)).wide (Nat.le_refl _) (by simp), Row.alloc k.rp _, Row.alloc k.r2 _, k.l.alloc k.l.size _, by have := k.sz; simp; omega⟩
theorem own_store {g : Nat} {a0 b0 c0 : Value} (k : OwnSt w W fa la ra vA vB lA rB) (hr : RowH W g a0 b0 c0) (hg : w.heap.size + 2 ≤ g) (x y z : Value) : OwnSt w (((W.setCell ⟨g, 0, none⟩ x).setCell ⟨g, 1, none⟩ y).setCell ⟨g, 2, none⟩ z) fa la ra vA vB lA rB :=
  ⟨by simp only [World.size_setCell]; exact k.ow.set3 hr x y z, Row.other (Row.other (Row.other k.rp ⟨g, 0, none⟩ (by simp; omega) x) ⟨g, 1, none⟩ (by simp; omega) y) ⟨g, 2, none⟩ (by simp; omega) z, Row.other (Row.other (Row.other k.r2 ⟨g, 0, none⟩ (by simp; omega) x) ⟨g, 1, none⟩ (by simp; omega) y) ⟨g, 2, none⟩ (by simp; omega) z, below_set3 k.l (by omega) x y z, by simp only [World.size_setCell]; exact k.sz⟩
theorem row_grown {W' : World} {B g : Nat} {T : TypeId} {v : Value} {n : Nat} {xs : List Value} {cs : Array Value} (ho : W.ownsRow B T 1 v n xs) (hT : T ≠ 27) (hg : W.grownBy W' v.ownBlock) (hr : Row W g 27 cs) : Row W' g 27 cs :=
  (hg.block g hr.lt (fun e => owns_ne_row ho hr hT e.symm rfl)).trans hr
theorem grown_below {W' : World} {B : Nat} {T : TypeId} {v : Value} {n : Nat} {xs : List Value} (hb : Below B w W) (hB : B ≤ W.heap.size) (ho : W.ownsRow B T 1 v n xs) (hg : W.grownBy W' v.ownBlock) : Below B w W' := hb.grown hg hB (fun _ hk => (owns_lt ho hk).1)
theorem OwnSt.appB {bs : List Bool} (k : OwnSt w W fa la ra vA vB [] rB) (hs : BoolsAt w la bs) (hm : bs.length ≤ 1048576) (ty : TypeId) : ∃ v' W', (Builtin.append_ #[24, 24] ty #[vA, la]).run Try.prog W = .ok v' W' ∧ OwnSt w W' fa la ra v' vB bs rB ∧ ∀ g a b c, RowH W g a b c → RowH W' g a b c := by
  obtain ⟨i0, hi, hz0, hz1, hz2⟩ := info_parts info_boolz
  obtain ⟨us, hf⟩ := k.ow
  have ho : W.ownsRow w.heap.size 4 1 vA 0 [] := hf.live
  obtain ⟨v', W', hr, h1, h2, h3⟩ := run_appOwn (P := Try.prog) W w.heap.size 24 ty 4 i0 (.bool false) 1 Try.underlying24 hi hz0 hz1 hz2 rfl vA 0 [] ho la _ (hs.below k.l).src (by rw [List.length_map]; unfold maxLen; omega) (by rw [List.length_map]; omega) (by have := k.sz; omega)
  rw [List.nil_append, Nat.zero_add, List.length_map] at h1
  refine ⟨v', W', hr, ⟨⟨us, hf.turnLive h2 h1 h2.size (fun g hg => ?_)⟩, row_grown ho (by decide) h2 k.rp, row_grown ho (by decide) h2 k.r2, grown_below k.l (by have := k.sz; omega) ho h2, Nat.le_trans k.sz h2.size⟩, fun g a b c hr => row_grown ho (by decide) h2 hr⟩
  rcases h3 with h3 | h3
  · exact .inr (by rw [← h3]; exact hg)
  · rw [hg] at h3; cases h3; exact .inl ⟨Nat.le_refl _, (owns_lt h1 hg).2⟩
theorem OwnSt.appI {zs : List Int} (k : OwnSt w W fa la ra vA vB lA []) (hs : IntsAt w ra zs) (hm : zs.length ≤ 1048576) (ty : TypeId) : ∃ v' W', (Builtin.append_ #[25, 25] ty #[vB, ra]).run Try.prog W = .ok v' W' ∧ OwnSt w W' fa la ra vA v' lA zs ∧ ∀ g a b c, RowH W g a b c → RowH W' g a b c := by
  obtain ⟨i0, hi, hz0, hz1, hz2⟩ := info_parts info_int
  obtain ⟨us, hf⟩ := k.ow
  have ho : W.ownsRow w.heap.size 3 1 vB 0 [] := hf.roots
  obtain ⟨v', W', hr, h1, h2, h3⟩ := run_appOwn (P := Try.prog) W w.heap.size 25 ty 3 i0 (.int .i64 0) 8 Try.underlying25 hi hz0 hz1 hz2 rfl vB 0 [] ho ra _ (hs.below k.l).src (by rw [List.length_map]; unfold maxLen; omega) (by rw [List.length_map]; omega) (by have := k.sz; omega)
  rw [List.nil_append, Nat.zero_add, List.length_map] at h1
  refine ⟨v', W', hr, ⟨⟨us, hf.turnRoots h2 h1 h2.size (fun g hg => ?_)⟩, row_grown ho (by decide) h2 k.rp, row_grown ho (by decide) h2 k.r2, grown_below k.l (by have := k.sz; omega) ho h2, Nat.le_trans k.sz h2.size⟩, fun g a b c hr => row_grown ho (by decide) h2 hr⟩
  rcases h3 with h3 | h3
  · exact .inr (by rw [← h3]; exact hg)
  · rw [hg] at h3; cases h3; exact .inl ⟨Nat.le_refl _, (owns_lt h1 hg).2⟩
end
end Go.Proofs.Ytdagkbgobnaijab
