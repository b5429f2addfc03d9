/- A heap and one row more beside it: both are the call's own. -/
import Derived.Test.YtdagkbgobnaijabHn3
namespace Go.Proofs.Ytdagkbgobnaijab
open Go.RowKit Ph

theorem fam_keepRow {w w' : World} {lo hi n g : Nat} {v : Nat → Value} {cs : Nat → List Value} {ds : Array Value} (k : Fam w lo hi n tyH v cs) (hr : Row w g 27 ds) (hb : ∀ i, i ≠ g → i < w.heap.size → w'.heap[i]? = w.heap[i]?) : Fam w' lo hi n tyH v cs :=
  ⟨fun j hj => owns_block (k.own j hj) fun g' hg' => hb g' (owns_ne_row (k.own j hj) hr (tyH_ne j) hg') (owns_lt (k.own j hj) hg').2, k.lt, k.ap⟩
def OwnX (w : World) (lo hi : Nat) (a b c u : Value) (h : H) (zs : List Int) : Prop := ∃ us, Fam w lo hi (h.f.length + 3 + 1) tyH (upd (vH a b c us) (h.f.length + 3) u) (upd (cH us h) (h.f.length + 3) (zs.map (Value.int .i64)))
section
variable {w : World} {lo hi hi' : Nat} {a b c u : Value} {h : H} {zs : List Int}
theorem OwnX.of (k : OwnH w lo hi a b c h) (ho : Own w lo u zs) (hu : ∀ g, u.ownBlock = some g → hi ≤ g ∧ g < hi') (hh : hi ≤ hi') : OwnX w lo hi' a b c u h zs := by
  obtain ⟨us, k⟩ := k
  exact ⟨us, Fam.grow k (u := u) (ds := zs.map (Value.int .i64)) (by simp only [tyH, List.length_map]; exact ho) hh hu⟩
theorem OwnX.cellRow {g : Nat} {cs : Array Value} (k : OwnX w lo hi a b c u h zs) (hr : Row w g 27 cs) (j : Nat) (x : Value) : OwnX (w.setCell ⟨g, j, none⟩ x) lo hi a b c u h zs := by
  obtain ⟨us, k⟩ := k
  exact ⟨us, fam_keepRow k hr fun i hi _ => heap_setCell_other w ⟨g, j, none⟩ i _ hi⟩
theorem OwnX.live (k : OwnX w lo hi a b c u h zs) (hl : lo ≤ hi) (hs : hi ≤ w.heap.size) (hn : h.l.length ≤ 1000) (x : Bool) (ty : TypeId) :
    ∃ v1 w1, (Builtin.append_ #[24, 24] ty #[b, .slice (some ⟨w.heap.size, 0, none⟩) 1 1]).run Try.prog (w.alloc (.cells #[.bool x] 4)) = .ok v1 w1 ∧ OwnX w1 lo w1.heap.size a v1 c u ⟨h.f, h.l ++ [x], h.r⟩ zs ∧ (∀ g cs, Row w g 27 cs → Row w1 g 27 cs) ∧ (∀ B w0, B ≤ lo → Below B w0 w → Below B w0 w1) ∧ w.heap.size ≤ w1.heap.size ∧ ∃ p q, v1 = .slice p (h.l.length + 1) q := by
  obtain ⟨i0, hi0, hz0, hz1, hz2⟩ := info_parts info_boolz
  obtain ⟨us, hf0⟩ := k
  have hf := Fam.below hf0 (below1 w (.cells #[.bool x] 4))
  have ho : OwnBs (w.alloc (.cells #[.bool x] 4)) lo b h.l := by
    have := hf.own 1 (by omega)
    rw [upd_other _ _ (by omega), upd_other _ _ (by omega)] at this
    simp only [tyH, vH, cH, List.length_map] at this
    exact this
  obtain ⟨v', W', hr, h1, h2, h3⟩ := run_appOwn (P := Try.prog) (w.alloc (.cells #[.bool x] 4)) lo 24 ty 4 i0 (.bool false) 1 Try.underlying24 hi0 hz0 hz1 hz2 rfl b h.l.length _ ho _ _ (src_bool w x) (by simp; unfold maxLen; omega) (by simp; omega) (by simp; omega)
  have h1' : OwnBs W' lo v' (h.l ++ [x]) := by unfold OwnBs; rw [List.map_append, List.length_append]; exact h1
  have hsz : (w.alloc (.cells #[.bool x] 4)).heap.size = w.heap.size + 1 := World.size_alloc _ _
  have h2s := h2.size
  have k2 := Fam.turn hf (k := 1) (by omega) (u := v') (ds := (h.l ++ [x]).map Value.bool) (hi' := W'.heap.size) (by rw [upd_other _ _ (by omega)]; exact h2) (by simp only [tyH, List.length_map]; exact h1') (by omega) (fun g hg => by
    rw [upd_other _ _ (by omega)]
    rcases h3 with h3 | h3
    · exact .inr (show b.ownBlock = some g from h3.symm.trans hg)
    · rw [hg] at h3; cases h3; exact .inl ⟨by omega, (owns_lt h1' hg).2⟩)
  refine ⟨v', W', hr, ⟨us, k2.congr (fun j hj => ?_) fun j hj => ?_⟩, fun g cs hr => row_grown ho (by decide) h2 (Row.alloc hr _), fun B w0 hB hb => (hb.alloc (by omega) _).grown h2 (by omega) (fun g hg => by have := (owns_lt ho hg).1; omega), by omega, ?_⟩
  · by_cases e1 : j = 1
    · subst e1; rw [upd_same, upd_other _ _ (by omega)]; rfl
    · rw [upd_other _ _ e1]
      by_cases e2 : j = h.f.length + 3
      · subst e2; rw [upd_same, upd_same]
      · rw [upd_other _ _ e2, upd_other _ _ e2]
        match j with
        | 0 => rfl
        | 1 => exact absurd rfl e1
        | 2 => rfl
        | j + 3 => rfl
  · by_cases e1 : j = 1
    · subst e1; rw [upd_same, upd_other _ _ (by omega)]; rfl
    · rw [upd_other _ _ e1]
      by_cases e2 : j = h.f.length + 3
      · subst e2; rw [upd_same, upd_same]
      · rw [upd_other _ _ e2, upd_other _ _ e2]
        match j with
        | 0 => rfl
        | 1 => exact absurd rfl e1
        | 2 => rfl
        | j + 3 => rfl
  · rcases h1.2 with ⟨_, h0⟩ | ⟨g, cap, cur, hv, _⟩
    · simp at h0
    · exact ⟨_, _, hv⟩
theorem OwnX.rows (k : OwnX w lo hi a b c u h zs) (hl : lo ≤ hi) (hs : hi ≤ w.heap.size) (hn : h.f.length ≤ 1000) (hu1 : u.oneCell' = true) (ty : TypeId) :
    ∃ v1 w1, (Builtin.append_ #[23, 23] ty #[a, .slice (some ⟨w.heap.size, 0, none⟩) 1 1]).run Try.prog (w.alloc (.cells #[u] 25)) = .ok v1 w1 ∧ OwnH w1 lo w1.heap.size v1 b c ⟨h.f ++ [zs], h.l, h.r⟩ ∧ (∀ g cs, Row w g 27 cs → Row w1 g 27 cs) ∧ (∀ B w0, B ≤ lo → Below B w0 w → Below B w0 w1) ∧ w.heap.size ≤ w1.heap.size := by
  obtain ⟨i0, hi0, hz0, hz1, hz2⟩ := info_parts info_ints
  obtain ⟨us, hf0⟩ := k
  have hf := Fam.below hf0 (below1 w (.cells #[u] 25))
  have ho : (w.alloc (.cells #[u] 25)).ownsRow lo 25 1 a h.f.length ((List.range h.f.length).map us) := by
    have := hf.own 0 (by omega)
    rw [upd_other _ _ (by omega), upd_other _ _ (by omega)] at this
    simp only [tyH, vH, cH, List.length_map, List.length_range] at this
    exact this
  obtain ⟨v', W', hr, h1, h2, h3⟩ := run_appOwn (P := Try.prog) (w.alloc (.cells #[u] 25)) lo 23 ty 25 i0 (.slice none 0 0) 24 Try.underlying23 hi0 hz0 hz1 hz2 rfl a h.f.length _ ho _ [u] (src_one w _ hu1) (by simp; unfold maxLen; omega) (by simp; omega) (by simp; omega)
  have h1' : W'.ownsRow lo 25 1 v' (h.f.length + 1) ((List.range h.f.length).map us ++ [u]) := h1
  have hsz : (w.alloc (.cells #[u] 25)).heap.size = w.heap.size + 1 := World.size_alloc _ _
  have h2s := h2.size
  have k2 := Fam.turn hf (k := 0) (by omega) (u := v') (ds := (List.range h.f.length).map us ++ [u]) (hi' := W'.heap.size) (by rw [upd_other _ _ (by omega)]; exact h2) (by simp only [tyH, List.length_append, List.length_map, List.length_range, List.length_singleton]; exact h1') (by omega) (fun g hg => by
    rw [upd_other _ _ (by omega)]
    rcases h3 with h3 | h3
    · exact .inr (show a.ownBlock = some g from h3.symm.trans hg)
    · rw [hg] at h3; cases h3; exact .inl ⟨by omega, (owns_lt h1' hg).2⟩)
  refine ⟨v', W', hr, ⟨upd us h.f.length u, ?_⟩, fun g cs hr => row_grown ho (by decide) h2 (Row.alloc hr _), fun B w0 hB hb => (hb.alloc (by omega) _).grown h2 (by omega) (fun g hg => by have := (owns_lt ho hg).1; omega), by omega⟩
  unfold FamH
  have e : (h.f ++ [zs]).length + 3 = h.f.length + 3 + 1 := by simp
  rw [e]
  refine k2.congr (fun j hj => ?_) fun j hj => ?_
  · match j with
    | 0 => rw [upd_same]; rfl
    | 1 => rw [upd_other _ _ (by omega), upd_other _ _ (by omega)]; rfl
    | 2 => rw [upd_other _ _ (by omega), upd_other _ _ (by omega)]; rfl
    | j + 3 =>
      rw [upd_other _ _ (by omega)]
      by_cases e : j = h.f.length
      · subst e; rw [upd_same]; simp only [vH]; rw [upd_same]
      · rw [upd_other _ _ (by omega)]; simp only [vH]; rw [upd_other _ _ e]
  · match j with
    | 0 =>
      rw [upd_same]; simp only [cH, List.length_append, List.length_singleton]
      rw [List.range_succ, List.map_append]
      have e1 : (List.range h.f.length).map (upd us h.f.length u) = (List.range h.f.length).map us := List.map_congr_left fun x hx => by
        have : x < h.f.length := by simpa using hx
        rw [upd_other _ _ (by omega)]
      rw [e1, List.map_singleton, upd_same]
    | 1 => rw [upd_other _ _ (by omega), upd_other _ _ (by omega)]; rfl
    | 2 => rw [upd_other _ _ (by omega), upd_other _ _ (by omega)]; rfl
    | j + 3 =>
      rw [upd_other _ _ (by omega)]
      by_cases e : j = h.f.length
      · subst e; rw [upd_same]; simp [cH]
      · rw [upd_other _ _ (by omega)]; simp only [cH]
        have : j < h.f.length := by omega
        simp [List.getD, List.getElem?_append_left this]
end
end Go.Proofs.Ytdagkbgobnaijab
