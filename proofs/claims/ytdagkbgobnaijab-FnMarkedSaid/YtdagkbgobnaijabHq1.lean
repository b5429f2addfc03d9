/- A queue: a slice that loses its head and grows at its end. -/
import Derived.Test.YtdagkbgobnaijabHw4
import Derived.Deep.AppendSrc
import Derived.ArgAppend
namespace Go.Proofs.Ytdagkbgobnaijab
open Go.RowKit Ph

structure Que (w : World) (lo b off cap : Nat) (zs : List Int) : Prop where
  lo : lo ≤ b
  lt : b < w.heap.size
  le : zs.length ≤ cap
  at' : ∀ i, i < zs.length → w.cell? ⟨b, off + i, none⟩ = some (.int .i64 (zs.getD i 0))
  there : ∀ i, i < cap → (w.cell? ⟨b, off + i, none⟩).isSome = true
  free : ∀ i, w.frozen? ⟨b, off + i, none⟩ = false
theorem Que.kept {w w' : World} {lo b off cap : Nat} {zs : List Int} (h : Que w lo b off cap zs) (hs : w.heap.size ≤ w'.heap.size) (hb : w'.heap[b]? = w.heap[b]?) : Que w' lo b off cap zs := by
  have hc : ∀ k, w'.cell? ⟨b, k, none⟩ = w.cell? ⟨b, k, none⟩ := fun k => World.cell?_of_block (a := ⟨b, k, none⟩) hb
  have hf : ∀ k, w'.frozen? ⟨b, k, none⟩ = w.frozen? ⟨b, k, none⟩ := fun k => World.frozen?_of_block (a := ⟨b, k, none⟩) hb
  exact ⟨h.lo, Nat.lt_of_lt_of_le h.lt hs, h.le, fun i hi => by rw [hc]; exact h.at' i hi, fun i hi => by rw [hc]; exact h.there i hi, fun i => by rw [hf]; exact h.free i⟩
theorem Que.tail {w : World} {lo b off cap : Nat} {z : Int} {zs : List Int} (h : Que w lo b off cap (z :: zs)) : Que w lo b (off + 1) (cap - 1) zs := by
  have hl := h.le
  simp only [List.length_cons] at hl
  refine ⟨h.lo, h.lt, by omega, fun i hi => ?_, fun i hi => ?_, fun i => ?_⟩
  · have := h.at' (i + 1) (by simp; omega)
    rw [show off + 1 + i = off + (i + 1) by omega, this]
    simp
  · rw [show off + 1 + i = off + (i + 1) by omega]; exact h.there (i + 1) (by omega)
  · rw [show off + 1 + i = off + (i + 1) by omega]; exact h.free (i + 1)
theorem Que.tail0 {w : World} {lo b off cap : Nat} {z : Int} {zs : List Int} (h : Que w lo b off cap (z :: zs)) (h1 : cap = 1) : Que w lo b off (cap - 1) zs := by
  have hl := h.le
  simp only [List.length_cons] at hl
  exact ⟨h.lo, h.lt, by omega, fun i hi => by omega, fun i hi => by omega, h.free⟩
theorem Que.ofOwn {w : World} {lo : Nat} {v : Value} {zs : List Int} (h : Own w lo v zs) (h0 : 0 < zs.length) : ∃ b cap, v = .slice (some ⟨b, 0, none⟩) zs.length cap ∧ Que w lo b 0 cap zs := by
  have h' := h
  unfold Own at h'
  rcases h.2 with ⟨_, h2⟩ | ⟨g, cap, cur, rfl, hg, hh, hle, _, hcs, _⟩
  · omega
  · refine ⟨g, cap, rfl, hg, ?_, hle, fun i hi => ?_, fun i hi => ?_, fun i => ?_⟩
    · exact (owns_lt h' rfl).2
    · rw [Nat.zero_add, h'.cellAt i (by omega), List.getElem?_map, List.getElem?_eq_getElem hi]
      simp [List.getD, List.getElem?_eq_getElem hi]
    · rw [Nat.zero_add]
      have : w.cell? ⟨g, i, none⟩ = cur[i]? := cell_of_row w g i _ _ _ hh
      rw [this]
      simp; omega
    · rw [Nat.zero_add]; exact frozen_of_row w g i _ _ hh
theorem ints_src {w : World} {x : Value} {ys : List Int} (h : IntsAt w x ys) : ∃ ao c, x = .slice ao ys.length c ∧ Src Try.prog 1 25 x ys.length (ys.map (Value.int .i64)) w ∧ (0 < ys.length → ∃ ad, ao = some ad ∧ ∀ j u, (ys.map (Value.int .i64))[j]? = some u → w.cell? (ad.add j) = some u) := by
  obtain ⟨ao, c, rfl, hc⟩ := h
  refine ⟨ao, c, rfl, ?_, fun h0 => ?_⟩
  · cases ao with
    | none =>
      have : ys = [] := by
        cases ys with
        | nil => rfl
        | cons y ys => obtain ⟨b, off, hb, _⟩ := hc (by simp); cases hb
      subst this
      exact Src.ofNil w Try.underlying25 c
    | some ad =>
      refine Src.ofSlice w Try.underlying25 ad _ c _ (by simp) (fun j u hu => ?_) (fun u hu => by obtain ⟨_, _, rfl⟩ := List.mem_map.1 hu; rfl)
      have hj : j < ys.length := by
        have := List.getElem?_eq_some_iff.1 hu
        obtain ⟨h1, _⟩ := this
        simpa using h1
      obtain ⟨b, off, hb, hcc⟩ := hc (by omega)
      cases hb
      have := hcc j hj
      rw [Addr.add_lit]
      rw [this]
      rw [List.getElem?_map, List.getElem?_eq_getElem hj] at hu
      simp only [Option.map_some, Option.some.injEq] at hu
      rw [← hu]; simp [List.getD, List.getElem?_eq_getElem hj]
  · obtain ⟨b, off, rfl, hcc⟩ := hc h0
    refine ⟨_, rfl, fun j u hu => ?_⟩
    have hj : j < ys.length := by
      obtain ⟨h1, _⟩ := List.getElem?_eq_some_iff.1 hu
      simpa using h1
    have := hcc j hj
    rw [Addr.add_lit]
    rw [this]
    rw [List.getElem?_map, List.getElem?_eq_getElem hj] at hu
    simp only [Option.map_some, Option.some.injEq] at hu
    rw [← hu]; simp [List.getD, List.getElem?_eq_getElem hj]
theorem grownBy_setCells (w : World) (g o : Nat) : ∀ (vs : List Value), w.grownBy (w.setCells g o vs) (some g) := by
  intro vs
  induction vs generalizing w o with
  | nil => exact World.grownBy.refl _ _
  | cons v vs ih =>
    have h1 : w.grownBy (w.setCell ⟨g, o, none⟩ v) (some g) := ⟨rfl, rfl, rfl, by rw [World.size_setCell]; exact Nat.le_refl _, fun i _ hne => heap_setCell_other w ⟨g, o, none⟩ i _ (fun e => hne (by rw [e]))⟩
    exact grownBy_trans h1 (ih _ _)
/-- What an append makes of a queue. -/
theorem wl_appQ (w : World) {ops : Array Oper} {rest : List Oper} {o : Oper} {q : Act} {Q : Exit → Act → World → Prop} (hg : o.guard = none) (s x : Operand) (hop : o.op = Op.call { callee := Callee.builtin Builtin.append, args := #[s, x], argTypes := #[25, 25] })
    (lo b off cap : Nat) (zs : List Int) (hs : q.eval s = .slice (some ⟨b, off, none⟩) zs.length cap) (hQ : Que w lo b off cap zs) (y : Value) (ys : List Int) (hx : q.eval x = y) (hy : IntsAt w y ys) (hlo : lo ≤ w.heap.size) (hm : zs.length + ys.length ≤ 1000000)
    (hK : ∀ b' off' cap' w', Que w' lo b' off' cap' (zs ++ ys) → w.grownBy w' (some b) → wpList Try.prog ops Q rest (q.put o.dst (.slice (some ⟨b', off', none⟩) (zs ++ ys).length cap')) w') : wpList Try.prog ops Q (o :: rest) q w := by
  obtain ⟨i, hi, hz0, hz1, hz2⟩ := info_parts info_int
  obtain ⟨ao, c, rfl, hsrc, hcell⟩ := ints_src hy
  by_cases hfit : zs.length + ys.length ≤ cap
  · have hrun := run_append_room_src (P := Try.prog) w 25 25 o.type 3 i Try.underlying25 hi b off zs.length cap _ ys.length (ys.map (Value.int .i64)) (by rw [hz1]; exact hsrc) hfit
      (fun j hj => by rw [hz1, Nat.mul_one, Nat.add_assoc]; exact hQ.there _ (by simp at hj; omega)) (fun j hj => by rw [hz1, Nat.mul_one, Nat.add_assoc]; exact hQ.free _)
    rw [hz1, Nat.mul_one] at hrun
    have hgr := grownBy_setCells w b (off + zs.length) (ys.map (Value.int .i64))
    have hQ' : Que (w.setCells b (off + zs.length) (ys.map (Value.int .i64))) lo b off cap (zs ++ ys) := by
      refine ⟨hQ.lo, Nat.lt_of_lt_of_le hQ.lt hgr.size, by simp; omega, fun k hk => ?_, fun k hk => ?_, fun k => ?_⟩
      · by_cases e : k < zs.length
        · rw [World.cell?_setCells_out b _ _ w ⟨b, off + k, none⟩ (fun _ _ => .inl (by simp only; omega)), hQ.at' k e]
          simp [List.getD, List.getElem?_append_left e]
        · have hk' : k - zs.length < ys.length := by simp at hk; omega
          have := World.cell?_setCells_in b (ys.map (Value.int .i64)) (off + zs.length) w (fun j hj => by rw [Nat.add_assoc]; exact hQ.there _ (by simp at hj; omega)) (k - zs.length) (by simp; omega)
          rw [show off + zs.length + (k - zs.length) = off + k by omega] at this
          rw [this]
          simp [List.getD, List.getElem?_append_right (show zs.length ≤ k by omega), List.getElem?_eq_getElem hk']
      · by_cases e : k < zs.length ∨ zs.length + ys.length ≤ k
        · rw [World.cell?_setCells_out b _ _ w ⟨b, off + k, none⟩ (fun _ _ => by simp only [List.length_map]; omega)]; exact hQ.there k hk
        · have hk' : k - zs.length < ys.length := by omega
          have := World.cell?_setCells_in b (ys.map (Value.int .i64)) (off + zs.length) w (fun j hj => by rw [Nat.add_assoc]; exact hQ.there _ (by simp at hj; omega)) (k - zs.length) (by simp; omega)
          rw [show off + zs.length + (k - zs.length) = off + k by omega] at this
          rw [this]; rfl
      · rw [World.frozen?_setCells]; exact hQ.free k
    refine wpList_plain hg fun K hK' => ?_
    have hh := hK b off cap _ hQ' hgr
    rw [List.length_append] at hh
    unfold Oper.wp
    simp [execOp, hop, resolve, invoke, builtin, hs, hx, hrun, Result.andThen]
    exact hK' _ _ hh
  · obtain ⟨ad, rfl, hnews⟩ := hcell (by have := hQ.le; omega)
    refine wpList_append_grows w hg s x 25 hop 3 i (.int .i64 0) 1 8 Try.underlying25 hi hz0 hz1 hz2 rfl (by omega) (some ⟨b, off, none⟩) zs.length cap (zs.map (Value.int .i64)) hs (fun h => by cases h) (by simp) (fun b' hb' j u hu => ?_) ad ys.length c (ys.map (Value.int .i64)) hx (by simp) hnews (fun u hu => by obtain ⟨_, _, rfl⟩ := List.mem_map.1 hu; rfl) (by omega) (by unfold maxLen; omega) (by omega) ?_
    · cases hb'
      have hj : j < zs.length := by
        obtain ⟨h1, _⟩ := List.getElem?_eq_some_iff.1 hu
        simpa using h1
      have := hQ.at' j hj
      rw [Addr.add_lit]
      rw [this]
      rw [List.getElem?_map, List.getElem?_eq_getElem hj] at hu
      simp only [Option.map_some, Option.some.injEq] at hu
      rw [← hu]; simp [List.getD, List.getElem?_eq_getElem hj]
    · intro v' w' hown hgr
      have ho : Own w' w.heap.size v' (zs ++ ys) := by unfold Own; rw [List.length_append, List.map_append]; exact hown
      obtain ⟨b', cap', rfl, hq⟩ := Que.ofOwn ho (by rw [List.length_append]; have := hQ.le; omega)
      exact hK b' 0 cap' w' ⟨Nat.le_trans hlo hq.lo, hq.lt, hq.le, hq.at', hq.there, hq.free⟩ ⟨hgr.os, hgr.tape, hgr.output, hgr.size, fun i hi _ => hgr.block i hi (by simp)⟩
end Go.Proofs.Ytdagkbgobnaijab
