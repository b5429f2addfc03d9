/- Slices of bools, slices of slices of ints: how they read, what a call owns of them; heaps by value. -/
import Derived.Test.YtdagkbgobnaijabGb
import Derived.Test.YtdagkbgobnaijabPh
namespace Go.Proofs.Ytdagkbgobnaijab
open Go.RowKit Ph

/-- The slice value v reads, in the world w, as the list bs of bools. -/
def BoolsAt (w : World) (v : Value) (bs : List Bool) : Prop :=
  ∃ a cap, v = .slice a bs.length cap ∧ (0 < bs.length → ∃ b off, a = some ⟨b, off, none⟩ ∧ ∀ i, i < bs.length → w.cell? ⟨b, off + i, none⟩ = some (.bool (bs.getD i false)))
/-- The slice value v reads, in the world w, as the list fs of lists of ints. -/
def RowsAt (w : World) (v : Value) (fs : List (List Int)) : Prop :=
  ∃ a cap, v = .slice a fs.length cap ∧ (0 < fs.length → ∃ b off, a = some ⟨b, off, none⟩ ∧ ∀ i, i < fs.length → ∃ u, w.cell? ⟨b, off + i, none⟩ = some u ∧ IntsAt w u (fs.getD i []))
theorem BoolsAt.below {w w' : World} {v : Value} {bs : List Bool} (h : BoolsAt w v bs) (hb : Below w.heap.size w w') : BoolsAt w' v bs := by
  obtain ⟨a, cap, hv, hc⟩ := h
  refine ⟨a, cap, hv, fun h0 => ?_⟩
  obtain ⟨b, off, ha, hc⟩ := hc h0
  refine ⟨b, off, ha, fun i hi => ?_⟩
  have h1 := hc i hi
  rw [hb.cell (p := ⟨b, off + i, none⟩) (block_lt_of_cell h1)]
  exact h1
theorem RowsAt.below {w w' : World} {v : Value} {fs : List (List Int)} (h : RowsAt w v fs) (hb : Below w.heap.size w w') : RowsAt w' v fs := by
  obtain ⟨a, cap, hv, hc⟩ := h
  refine ⟨a, cap, hv, fun h0 => ?_⟩
  obtain ⟨b, off, ha, hc⟩ := hc h0
  refine ⟨b, off, ha, fun i hi => ?_⟩
  obtain ⟨u, h1, h2⟩ := hc i hi
  rw [hb.cell (p := ⟨b, off + i, none⟩) (block_lt_of_cell h1)]
  exact ⟨u, h1, h2.below hb⟩
theorem IntsAt.shape {w : World} {v : Value} {zs : List Int} (h : IntsAt w v zs) : ∃ a c, v = .slice a zs.length c := by obtain ⟨a, c, h, _⟩ := h; exact ⟨a, c, h⟩
theorem BoolsAt.shape {w : World} {v : Value} {zs : List Bool} (h : BoolsAt w v zs) : ∃ a c, v = .slice a zs.length c := by obtain ⟨a, c, h, _⟩ := h; exact ⟨a, c, h⟩
theorem RowsAt.shape {w : World} {v : Value} {zs : List (List Int)} (h : RowsAt w v zs) : ∃ a c, v = .slice a zs.length c := by obtain ⟨a, c, h, _⟩ := h; exact ⟨a, c, h⟩
theorem IntsAt.at' {w : World} {a : Option Addr} {n c : Nat} {zs : List Int} (h : IntsAt w (.slice a n c) zs) (h0 : 0 < n) : ∃ b off, a = some ⟨b, off, none⟩ ∧ ∀ i, i < n → w.cell? ⟨b, off + i, none⟩ = some (.int .i64 (zs.getD i 0)) := by
  obtain ⟨a', c', hv, hc⟩ := h
  cases hv
  exact hc h0
theorem BoolsAt.at' {w : World} {a : Option Addr} {n c : Nat} {zs : List Bool} (h : BoolsAt w (.slice a n c) zs) (h0 : 0 < n) : ∃ b off, a = some ⟨b, off, none⟩ ∧ ∀ i, i < n → w.cell? ⟨b, off + i, none⟩ = some (.bool (zs.getD i false)) := by
  obtain ⟨a', c', hv, hc⟩ := h
  cases hv
  exact hc h0
theorem RowsAt.at' {w : World} {a : Option Addr} {n c : Nat} {zs : List (List Int)} (h : RowsAt w (.slice a n c) zs) (h0 : 0 < n) : ∃ b off, a = some ⟨b, off, none⟩ ∧ ∀ i, i < n → ∃ u, w.cell? ⟨b, off + i, none⟩ = some u ∧ IntsAt w u (zs.getD i []) := by
  obtain ⟨a', c', hv, hc⟩ := h
  cases hv
  exact hc h0
theorem IntsAt.len {w : World} {a : Option Addr} {n c : Nat} {zs : List Int} (h : IntsAt w (.slice a n c) zs) : zs.length = n := by obtain ⟨a', c', hv, _⟩ := h; cases hv; rfl
theorem BoolsAt.len {w : World} {a : Option Addr} {n c : Nat} {zs : List Bool} (h : BoolsAt w (.slice a n c) zs) : zs.length = n := by obtain ⟨a', c', hv, _⟩ := h; cases hv; rfl
theorem RowsAt.len {w : World} {a : Option Addr} {n c : Nat} {zs : List (List Int)} (h : RowsAt w (.slice a n c) zs) : zs.length = n := by obtain ⟨a', c', hv, _⟩ := h; cases hv; rfl
/-- A heap by value. -/
abbrev hv (a b c : Value) : Value := .agg #[a, b, c]
abbrev c3 (a b c : Value) : Array Value := #[a, b, c]
structure HeapAt (w : World) (a b c : Value) (h : H) : Prop where
  f : RowsAt w a h.f
  l : BoolsAt w b h.l
  r : IntsAt w c h.r
theorem HeapAt.below {w w' : World} {a b c : Value} {h : H} (k : HeapAt w a b c h) (hb : Below w.heap.size w w') : HeapAt w' a b c h := ⟨k.f.below hb, k.l.below hb, k.r.below hb⟩
theorem cellBelow {w w' : World} {p : Addr} {x : Value} {B : Nat} (hb : Below B w w') (hB : w.heap.size ≤ B) (h : w.cell? p = some x) : w'.cell? p = some x := (hb.cell (Nat.lt_of_lt_of_le (block_lt_of_cell h) hB)).trans h
theorem below1 (w : World) (o : Obj) : Below w.heap.size w (w.alloc o) := (Below.refl w.heap.size w).alloc (Nat.le_refl _) o
def RowH (w : World) (g : Nat) (a b c : Value) : Prop := Row w g 27 (c3 a b c)
theorem info_heap : (Try.prog.info? 27).map (·.size) = some 3 := by kernel_rfl
theorem RowH.c0 {w : World} {g : Nat} {a b c : Value} (h : RowH w g a b c) : w.cell? ⟨g, 0, none⟩ = some a := Row.cell h 0
theorem RowH.c1 {w : World} {g : Nat} {a b c : Value} (h : RowH w g a b c) : w.cell? ⟨g, 1, none⟩ = some b := Row.cell h 1
theorem RowH.c2 {w : World} {g : Nat} {a b c : Value} (h : RowH w g a b c) : w.cell? ⟨g, 2, none⟩ = some c := Row.cell h 2
theorem RowH.below {w w' : World} {g : Nat} {a b c : Value} (h : RowH w g a b c) (hb : Below w.heap.size w w') : RowH w' g a b c := Row.below h hb
theorem wl_loadH {ops : Array Oper} {rest : List Oper} {o : Oper} {q : Act} {w : World} {Q : Exit → Act → World → Prop} (hgd : o.guard = none) (x : Operand) (ho : o.op = .load 27 x) (g : Nat) (a b c : Value) (hg : RowH w g a b c)
    (hx : q.eval x = .pointer (some ⟨g, 0, none⟩)) (h : wpList Try.prog ops Q rest (q.put o.dst (hv a b c)) w) : wpList Try.prog ops Q (o :: rest) q w :=
  wpList_load_row hgd 27 x ho g hx 27 (c3 a b c) (0, 0) _ hg Try.underlying27 rfl info_heap h
/-- What a call owns: n rows of cells, each in a block of its own, all blocks between lo and hi. -/
structure Fam (w : World) (lo hi n : Nat) (T : Nat → TypeId) (v : Nat → Value) (cs : Nat → List Value) : Prop where
  own : ∀ k, k < n → w.ownsRow lo (T k) 1 (v k) (cs k).length (cs k)
  lt : ∀ k, k < n → ∀ g, (v k).ownBlock = some g → g < hi
  ap : ∀ j k, j < n → k < n → j ≠ k → (v j).ownBlock = none ∨ (v j).ownBlock ≠ (v k).ownBlock
theorem owns_lt {w : World} {B : Nat} {T : TypeId} {v : Value} {n : Nat} {xs : List Value} (h : w.ownsRow B T 1 v n xs) {g : Nat} (hg : v.ownBlock = some g) : B ≤ g ∧ g < w.heap.size := by
  rcases h.2 with ⟨rfl, _⟩ | ⟨g', cap, cur, rfl, h1, h2, _⟩
  · cases hg
  · cases hg
    refine ⟨h1, ?_⟩
    by_cases e : g' < w.heap.size
    · exact e
    · have hn : w.heap[g']? = none := by simp; omega
      rw [hn] at h2; cases h2
/-- Blocks beyond lo .. hi are as they were. -/
structure Chg (lo hi : Nat) (w w' : World) : Prop where
  os : w'.os = w.os
  tape : w'.tape = w.tape
  output : w'.output = w.output
  size : w.heap.size ≤ w'.heap.size
  block : ∀ i, i < w.heap.size → (i < lo ∨ hi ≤ i) → w'.heap[i]? = w.heap[i]?
theorem Chg.refl (lo hi : Nat) (w : World) : Chg lo hi w w := ⟨rfl, rfl, rfl, Nat.le_refl _, fun _ _ _ => rfl⟩
theorem Chg.trans {lo hi : Nat} {a b c : World} (h : Chg lo hi a b) (k : Chg lo hi b c) : Chg lo hi a c := ⟨k.os.trans h.os, k.tape.trans h.tape, k.output.trans h.output, Nat.le_trans h.size k.size, fun i hi hr => (k.block i (Nat.lt_of_lt_of_le hi h.size) hr).trans (h.block i hi hr)⟩
theorem Chg.of_below {lo hi : Nat} {w w' : World} (h : Below w.heap.size w w') : Chg lo hi w w' := ⟨h.os, h.tape, h.output, h.size, fun i hi _ => h.block i hi⟩
theorem Chg.of_grown {lo hi : Nat} {w w' : World} {row : Option Nat} (h : w.grownBy w' row) (hr : ∀ g, row = some g → lo ≤ g ∧ g < hi) : Chg lo hi w w' := ⟨h.os, h.tape, h.output, h.size, fun i hi hx => h.block i hi (fun e => by have := hr i e.symm; omega)⟩
theorem Chg.below {lo hi : Nat} {w w' : World} (h : Chg lo hi w w') (hs : lo ≤ w.heap.size) : Below lo w w' := ⟨h.os, h.tape, h.output, h.size, fun i hi => h.block i (by omega) (.inl hi)⟩
theorem owns_block {w w' : World} {B : Nat} {T : TypeId} {v : Value} {n : Nat} {xs : List Value} (h : w.ownsRow B T 1 v n xs) (hb : ∀ g, v.ownBlock = some g → w'.heap[g]? = w.heap[g]?) : w'.ownsRow B T 1 v n xs := by
  refine ⟨h.1, ?_⟩
  rcases h.2 with h2 | ⟨g, cap, cur, hv, hg, hh, r⟩
  · exact .inl h2
  · exact .inr ⟨g, cap, cur, hv, hg, by rw [hb g (by rw [hv]; rfl)]; exact hh, r⟩
theorem owns_mono {w : World} {B B' : Nat} {T : TypeId} {v : Value} {n : Nat} {xs : List Value} (h : w.ownsRow B T 1 v n xs) (hB : ∀ g, v.ownBlock = some g → B' ≤ g) : w.ownsRow B' T 1 v n xs := by
  refine ⟨h.1, ?_⟩
  rcases h.2 with h2 | ⟨g, cap, cur, hv, hg, hh, r⟩
  · exact .inl h2
  · exact .inr ⟨g, cap, cur, hv, hB g (by rw [hv]; rfl), hh, r⟩
section
variable {w w' : World} {lo hi n : Nat} {T : Nat → TypeId} {v : Nat → Value} {cs : Nat → List Value}
theorem Fam.blk (h : Fam w lo hi n T v cs) {k g : Nat} (hk : k < n) (hg : (v k).ownBlock = some g) : lo ≤ g ∧ g < hi ∧ g < w.heap.size := ⟨(owns_lt (h.own k hk) hg).1, h.lt k hk g hg, (owns_lt (h.own k hk) hg).2⟩
theorem Fam.keep (h : Fam w lo hi n T v cs) (hb : ∀ g, lo ≤ g → g < hi → g < w.heap.size → w'.heap[g]? = w.heap[g]?) : Fam w' lo hi n T v cs :=
  ⟨fun k hk => owns_block (h.own k hk) fun g hg => by obtain ⟨a, b, c⟩ := h.blk hk hg; exact hb g a b c, h.lt, h.ap⟩
theorem Fam.below (h : Fam w lo hi n T v cs) (hb : Below w.heap.size w w') : Fam w' lo hi n T v cs := h.keep fun g _ _ hg => hb.block g hg
theorem Fam.chg {lo' hi' : Nat} (h : Fam w lo hi n T v cs) (hc : Chg lo' hi' w w') (hd : hi ≤ lo' ∨ hi' ≤ lo) : Fam w' lo hi n T v cs := h.keep fun g h1 h2 h3 => hc.block g h3 (by omega)
theorem Fam.wide (h : Fam w lo hi n T v cs) {lo' hi' : Nat} (h1 : lo' ≤ lo) (h2 : hi ≤ hi') : Fam w lo' hi' n T v cs :=
  ⟨fun k hk => owns_mono (h.own k hk) fun g hg => by have := h.blk hk hg; omega, fun k hk g hg => by have := h.lt k hk g hg; omega, h.ap⟩
def upd {α : Type} (f : Nat → α) (k : Nat) (x : α) : Nat → α := fun i => if i = k then x else f i
theorem upd_same {α : Type} (f : Nat → α) (k : Nat) (x : α) : upd f k x k = x := by simp [upd]
theorem upd_other {α : Type} (f : Nat → α) {k i : Nat} (x : α) (h : i ≠ k) : upd f k x i = f i := by simp [upd, h]
/-- One row's content changes in its own block. -/
theorem Fam.set (h : Fam w lo hi n T v cs) {k : Nat} (hk : k < n) {ds : List Value} (hg : w.grownBy w' (v k).ownBlock) (ho : w'.ownsRow lo (T k) 1 (v k) ds.length ds) : Fam w' lo hi n T v (upd cs k ds) := by
  refine ⟨fun j hj => ?_, h.lt, h.ap⟩
  by_cases e : j = k
  · subst e; rw [upd_same]; exact ho
  · rw [upd_other _ _ e]
    refine owns_block (h.own j hj) fun g hjg => hg.block g (owns_lt (h.own j hj) hjg).2 fun e2 => ?_
    rcases h.ap j k hj hk e with h1 | h1
    · rw [hjg] at h1; cases h1
    · exact h1 (by rw [hjg, ← e2])
/-- A row is put in another's place: nothing's, or a block of its own. -/
theorem Fam.put (h : Fam w lo hi n T v cs) {k : Nat} {u : Value} {ds : List Value} (ho : w.ownsRow lo (T k) 1 u ds.length ds) {hi' : Nat} (hh : hi ≤ hi') (hu : ∀ g, u.ownBlock = some g → (hi ≤ g ∧ g < hi') ∨ (v k).ownBlock = some g) (hk : k < n) : Fam w lo hi' n T (upd v k u) (upd cs k ds) := by
  have far : ∀ j, j < n → j ≠ k → ∀ g, u.ownBlock = some g → (v j).ownBlock ≠ some g := fun j hj e g hg hjg => by
    rcases hu g hg with h1 | h1
    · have := h.lt j hj g hjg; omega
    · rcases h.ap j k hj hk e with h2 | h2
      · rw [h2] at hjg; cases hjg
      · exact h2 (by rw [hjg, h1])
  refine ⟨fun j hj => ?_, fun j hj g hg => ?_, fun i j hi hj hij => ?_⟩
  · by_cases e : j = k
    · subst e; rw [upd_same, upd_same]; exact ho
    · rw [upd_other _ _ e, upd_other _ _ e]; exact h.own j hj
  · by_cases e : j = k
    · subst e; rw [upd_same] at hg
      rcases hu g hg with h1 | h1
      · exact h1.2
      · have := h.lt j hj g h1; omega
    · rw [upd_other _ _ e] at hg; have := h.lt j hj g hg; omega
  · by_cases e : i = k
    · have e' : j ≠ k := fun h => hij (by omega)
      subst e; rw [upd_same, upd_other _ _ e']
      cases hq : u.ownBlock with
      | none => exact .inl rfl
      | some g => exact .inr fun e2 => far j hj e' g hq e2.symm
    · by_cases e' : j = k
      · subst e'; rw [upd_same, upd_other _ _ e]
        cases hq : (v i).ownBlock with
        | none => exact .inl rfl
        | some g => exact .inr fun e2 => far i hi e g e2.symm hq
      · rw [upd_other _ _ e, upd_other _ _ e']; exact h.ap i j hi hj hij
end
end Go.Proofs.Ytdagkbgobnaijab
