/- The project's NewThing. -/
import Derived.Test.YtdagkbgobnaijabHk2
import Derived.Test.YtdagkbgobnaijabHn2
import Derived.Test.YtdagkbgobnaijabHs5b
namespace Go.Proofs.Ytdagkbgobnaijab.Ph
def newOk (h : H) (m : Int) : Bool := good h && decide (0 ≤ m) && decide (m ≤ 3) && decide (placeOf h.l < 12)
/-- One object more, not live. -/
def grown1 (h : H) : H := if placeOf h.l < h.l.length then h else ⟨h.f ++ [[]], h.l ++ [false], h.r⟩
def put1 (h : H) (p : Nat) (m : Nat) : H := ⟨h.f.set p (List.replicate m (-1)), h.l.set p true, h.r⟩
def newP (h : H) (m : Int) : H × Nat := if newOk h m = true then (put1 (grown1 h) (placeOf h.l) m.toNat, placeOf h.l) else (⟨[], [], []⟩, 0)
theorem newP_no {h : H} {m : Int} (k : newOk h m = false) : newP h m = (⟨[], [], []⟩, 0) := by unfold newP; rw [k]; rfl
theorem newP_yes {h : H} {m : Int} (k : newOk h m = true) : newP h m = (put1 (grown1 h) (placeOf h.l) m.toNat, placeOf h.l) := by unfold newP; rw [k]; rfl
end Go.Proofs.Ytdagkbgobnaijab.Ph
namespace Go.Proofs.Ytdagkbgobnaijab
open Go.RowKit Ph

theorem c_slRepeat (m g : Nat) (hm : m ≤ 3) (w : World) (hR : Row w g 3 #[.int .i64 (-1)]) : Calls Try.prog 166 #[.slice (some ⟨g, 0, none⟩) 1 1, .int .i64 (m : Int)] w fun e w' => ∃ v', e = .returned v' ∧ Own w' w.heap.size v' (List.replicate m (-1)) ∧ Below w.heap.size w w' := by
  match m, hm with
  | 0, _ => exact c_rep0 g w hR
  | 1, _ => exact c_rep1 g w hR
  | 2, _ => exact c_rep2 g w hR
  | 3, _ => exact c_rep3 g w hR
theorem src_bool (W : World) (b : Bool) : SrcAt (W.alloc (.cells #[.bool b] 4)) (.slice (some ⟨W.heap.size, 0, none⟩) 1 1) ([b].map Value.bool) :=
  ⟨_, 1, rfl, fun u hu => by simp at hu; rw [hu]; rfl, fun _ => ⟨W.heap.size, 0, rfl, fun j hj => by simp at hj; subst hj; exact Row.cell (Row.new W 4 #[.bool b]) 0⟩⟩
theorem wl_appRun {P : Program} {w w' : World} {ops : Array Oper} {rest : List Oper} {o : Oper} {q : Act} {Q : Exit → Act → World → Prop} {vs vx v' : Value} (hgd : o.guard = none) (s x : Operand) (t : TypeId) (hop : o.op = Op.call { callee := Callee.builtin Builtin.append, args := #[s, x], argTypes := #[t, t] }) (hs : q.eval s = vs) (hx : q.eval x = vx)
    (hrun : (Builtin.append_ #[t, t] o.type #[vs, vx]).run P w = .ok v' w') (h : wpList P ops Q rest (q.put o.dst v') w') : wpList P ops Q (o :: rest) q w := wpList_plain hgd fun _ hK => op_app s x t hop hs hx hrun (hK _ _ h)
theorem ext_live {w : World} {lo hi : Nat} {a b c : Value} {h : H} (k : OwnH w lo hi a b c h) (hl : lo ≤ hi) (hs : hi ≤ w.heap.size) (hn : h.l.length ≤ 1000) (x : Bool) (ty : TypeId) :
    ∃ v1 w1, (Builtin.append_ #[24, 24] ty #[b, .slice (some ⟨w.heap.size, 0, none⟩) 1 1]).run Try.prog (w.alloc (.cells #[.bool x] 4)) = .ok v1 w1 ∧ OwnH w1 lo w1.heap.size a v1 c ⟨h.f, h.l ++ [x], h.r⟩ ∧ (∀ g a b c, RowH w g a b c → RowH w1 g a b c) ∧ (∀ B w0, B ≤ lo → Below B w0 w → Below B w0 w1) ∧ w.heap.size ≤ w1.heap.size ∧ ∃ p q, v1 = .slice p (h.l.length + 1) q := by
  obtain ⟨i0, hi0, hz0, hz1, hz2⟩ := info_parts info_boolz
  obtain ⟨us, hf0⟩ := k
  have hf : FamH (w.alloc (.cells #[.bool x] 4)) lo hi a b c us h := Fam.below hf0 (below1 w _)
  have ho := hf.live
  obtain ⟨v', W', hr, h1, h2, h3⟩ := run_appOwn (P := Try.prog) (w.alloc (.cells #[.bool x] 4)) lo 24 ty 4 i0 (.bool false) 1 Try.underlying24 hi0 hz0 hz1 hz2 rfl b h.l.length _ ho _ _ (src_bool w x) (by simp; unfold maxLen; omega) (by simp; omega) (by simp; omega)
  have h1' : OwnBs W' lo v' (h.l ++ [x]) := by unfold OwnBs; rw [List.map_append, List.length_append]; exact h1
  have hsz : (w.alloc (.cells #[.bool x] 4)).heap.size = w.heap.size + 1 := World.size_alloc _ _
  have h2s := h2.size
  refine ⟨v', W', hr, ⟨us, hf.turnLive h2 h1' (by omega) (fun g hg => ?_)⟩, fun g a b c hr => row_grown ho (by decide) h2 (Row.alloc hr _), fun B w0 hB hb => (hb.alloc (by omega) _).grown h2 (by omega) (fun g hg => by have := (owns_lt ho hg).1; omega), by omega, ?_⟩
  · rcases h3 with h3 | h3
    · exact .inr (by rw [← h3]; exact hg)
    · rw [hg] at h3; cases h3; exact .inl ⟨by omega, (owns_lt h1' hg).2⟩
  · rcases h1.2 with ⟨_, h0⟩ | ⟨g, cap, cur, hv, _⟩
    · simp at h0
    · exact ⟨_, _, hv⟩
theorem ext_rows {w : World} {lo hi : Nat} {a b c : Value} {h : H} (k : OwnH w lo hi a b c h) (hl : lo ≤ hi) (hs : hi ≤ w.heap.size) (hn : h.f.length ≤ 1000) (ty : TypeId) :
    ∃ v1 w1, (Builtin.append_ #[23, 23] ty #[a, .slice (some ⟨w.heap.size, 0, none⟩) 1 1]).run Try.prog (w.alloc (.cells #[.slice none 0 0] 25)) = .ok v1 w1 ∧ OwnH w1 lo w1.heap.size v1 b c ⟨h.f ++ [[]], h.l, h.r⟩ ∧ (∀ g a b c, RowH w g a b c → RowH w1 g a b c) ∧ (∀ B w0, B ≤ lo → Below B w0 w → Below B w0 w1) ∧ w.heap.size ≤ w1.heap.size ∧ ∃ p q, v1 = .slice p (h.f.length + 1) q := by
  obtain ⟨i0, hi0, hz0, hz1, hz2⟩ := info_parts info_ints
  obtain ⟨us, hf0⟩ := k
  have hf : FamH (w.alloc (.cells #[.slice none 0 0] 25)) lo hi a b c us h := Fam.below hf0 (below1 w _)
  have ho := hf.outer
  obtain ⟨v', W', hr, h1, h2, h3⟩ := run_appOwn (P := Try.prog) (w.alloc (.cells #[.slice none 0 0] 25)) lo 23 ty 25 i0 (.slice none 0 0) 24 Try.underlying23 hi0 hz0 hz1 hz2 rfl a h.f.length _ ho _ [.slice none 0 0] (src_one w _ rfl) (by simp; unfold maxLen; omega) (by simp; omega) (by simp; omega)
  have h1' : W'.ownsRow lo 25 1 v' (h.f.length + 1) ((List.range h.f.length).map us ++ [.slice none 0 0]) := h1
  have hsz : (w.alloc (.cells #[.slice none 0 0] 25)).heap.size = w.heap.size + 1 := World.size_alloc _ _
  have h2s := h2.size
  refine ⟨v', W', hr, ⟨_, hf.growRow (hi1 := w.heap.size + 1) (Own.nil _ lo) (fun g hg => by cases hg) (by omega) h2 h1' (by omega) (fun g hg => ?_)⟩, fun g a b c hr => row_grown ho (by decide) h2 (Row.alloc hr _), fun B w0 hB hb => (hb.alloc (by omega) _).grown h2 (by omega) (fun g hg => by have := (owns_lt ho hg).1; omega), by omega, ?_⟩
  · rcases h3 with h3 | h3
    · exact .inr (by rw [← h3]; exact hg)
    · rw [hg] at h3; cases h3; exact .inl ⟨by omega, (owns_lt h1' hg).2⟩
  · rcases h1'.2 with ⟨_, h0⟩ | ⟨g, cap, cur, hv, _⟩
    · simp at h0
    · exact ⟨_, _, hv⟩
/-- A new row stored in a heap that is the call's own. -/
theorem putRow1 {w : World} {lo hi : Nat} {a b c : Value} {h : H} (k : OwnH w lo hi a b c h) {j : Nat} (hj : j < h.f.length) {u : Value} {zs : List Int} (ho : Own w hi u zs) (hl : lo ≤ hi) (hs : hi ≤ w.heap.size) : ∃ ga ca x, a = .slice (some ⟨ga, 0, none⟩) h.f.length ca ∧ w.cell? ⟨ga, j, none⟩ = some x ∧ w.frozen? ⟨ga, j, none⟩ = false ∧ lo ≤ ga ∧ (∀ g cs, Row w g 27 cs → ga ≠ g) ∧ OwnH (w.setCell ⟨ga, j, none⟩ u) lo w.heap.size a b c ⟨h.f.set j zs, h.l, h.r⟩ := by
  obtain ⟨us, hf⟩ := k
  rcases hf.shape with ⟨_, h0⟩ | ⟨ga, ca, ha⟩
  · rw [h0] at hj; simp at hj
  obtain ⟨c1, f1⟩ := hf.cell ha hj
  obtain ⟨s1, _⟩ := hf.putRow hj (ho.mono hl) hs (fun g hg => .inl (owns_lt ho hg)) ha
  have := Fam.blk hf (k := 0) (g := ga) (by omega) (by show a.ownBlock = _; rw [ha]; rfl)
  exact ⟨ga, ca, _, ha, c1, f1, this.1, fun g cs hr => owns_ne_row hf.outer hr (by decide) (by rw [ha]; rfl), ⟨_, s1⟩⟩
end Go.Proofs.Ytdagkbgobnaijab
