/- What a call owns of a heap: one block for each list. -/
import Derived.Test.YtdagkbgobnaijabHw1
namespace Go.Proofs.Ytdagkbgobnaijab
open Go.RowKit Ph

theorem Fam.congr {w : World} {lo hi n : Nat} {T : Nat → TypeId} {v v' : Nat → Value} {cs cs' : Nat → List Value} (h : Fam w lo hi n T v cs) (hv : ∀ k, k < n → v' k = v k) (hc : ∀ k, k < n → cs' k = cs k) : Fam w lo hi n T v' cs' :=
  ⟨fun k hk => by rw [hv k hk, hc k hk]; exact h.own k hk, fun k hk => by rw [hv k hk]; exact h.lt k hk, fun j k hj hk => by rw [hv j hj, hv k hk]; exact h.ap j k hj hk⟩
theorem Fam.grow {w : World} {lo hi n : Nat} {T : Nat → TypeId} {v : Nat → Value} {cs : Nat → List Value} (h : Fam w lo hi n T v cs) {u : Value} {ds : List Value} (ho : w.ownsRow lo (T n) 1 u ds.length ds) {hi' : Nat} (hh : hi ≤ hi') (hu : ∀ g, u.ownBlock = some g → hi ≤ g ∧ g < hi') : Fam w lo hi' (n + 1) T (upd v n u) (upd cs n ds) := by
  refine ⟨fun j hj => ?_, fun j hj g hg => ?_, fun i j hi hj hij => ?_⟩
  · by_cases e : j = n
    · subst e; rw [upd_same, upd_same]; exact ho
    · rw [upd_other _ _ e, upd_other _ _ e]; exact h.own j (by omega)
  · by_cases e : j = n
    · subst e; rw [upd_same] at hg; exact (hu g hg).2
    · rw [upd_other _ _ e] at hg; have := h.lt j (by omega) g hg; omega
  · by_cases e : i = n
    · have e' : j ≠ n := fun h => hij (by omega)
      subst e; rw [upd_same, upd_other _ _ e']
      cases hq : u.ownBlock with
      | none => exact .inl rfl
      | some g => exact .inr fun e2 => by have := h.lt j (by omega) g e2.symm; have := hu g hq; omega
    · by_cases e' : j = n
      · subst e'; rw [upd_same, upd_other _ _ e]
        cases hq : (v i).ownBlock with
        | none => exact .inl rfl
        | some g => exact .inr fun e2 => by have := h.lt i (by omega) g hq; have := hu g e2.symm; omega
      · rw [upd_other _ _ e, upd_other _ _ e']; exact h.ap i j (by omega) (by omega) hij

/-- A row of bools that the call itself has made. -/
def OwnBs (w : World) (B : Nat) (v : Value) (bs : List Bool) : Prop := w.ownsRow B 4 1 v bs.length (bs.map Value.bool)
def OwnVs (w : World) (B : Nat) (v : Value) (us : List Value) : Prop := w.ownsRow B 25 1 v us.length us
theorem owns_bools {w : World} {B : Nat} {v : Value} {bs : List Bool} (h : OwnBs w B v bs) : BoolsAt w v bs := by
  have h' := h
  obtain ⟨h1, h2⟩ := h
  rcases h2 with ⟨rfl, h2⟩ | ⟨g, cap, cur, rfl, hg, hh, _⟩
  · exact ⟨none, 0, by rw [h2], fun h => by omega⟩
  · refine ⟨_, cap, rfl, fun _ => ⟨g, 0, rfl, fun i hi => ?_⟩⟩
    rw [Nat.zero_add, World.ownsRow.cellAt h' i (by omega), List.getElem?_map, List.getElem?_eq_getElem hi]
    simp [List.getD, List.getElem?_eq_getElem hi]
theorem OwnBs.below {w w' : World} {B : Nat} {v : Value} {bs : List Bool} (h : OwnBs w B v bs) (hb : Below w.heap.size w w') : OwnBs w' B v bs := owns_block h fun g hg => hb.block g (owns_lt h hg).2
theorem OwnBs.nil (w : World) (B : Nat) : OwnBs w B (.slice none 0 0) [] := ⟨rfl, .inl ⟨rfl, rfl⟩⟩
theorem Own.nil (w : World) (B : Nat) : Own w B (.slice none 0 0) [] := ⟨rfl, .inl ⟨rfl, rfl⟩⟩
theorem OwnBs.shape {w : World} {B : Nat} {v : Value} {bs : List Bool} (h : OwnBs w B v bs) : (v = .slice none 0 0 ∧ bs = []) ∨ ∃ g c, v = .slice (some ⟨g, 0, none⟩) bs.length c := by
  rcases h.2 with ⟨h1, h2⟩ | ⟨g, cap, cur, h1, _⟩
  · exact .inl ⟨h1, List.eq_nil_of_length_eq_zero h2⟩
  · exact .inr ⟨g, cap, h1⟩
theorem Own.shape' {w : World} {B : Nat} {v : Value} {bs : List Int} (h : Own w B v bs) : (v = .slice none 0 0 ∧ bs = []) ∨ ∃ g c, v = .slice (some ⟨g, 0, none⟩) bs.length c := by
  rcases h.2 with ⟨h1, h2⟩ | ⟨g, cap, cur, h1, _⟩
  · exact .inl ⟨h1, List.eq_nil_of_length_eq_zero h2⟩
  · exact .inr ⟨g, cap, h1⟩

def tyH : Nat → TypeId
  | 0 => 25
  | 1 => 4
  | _ + 2 => 3
def vH (a b c : Value) (us : Nat → Value) : Nat → Value
  | 0 => a
  | 1 => b
  | 2 => c
  | i + 3 => us i
def cH (us : Nat → Value) (h : H) : Nat → List Value
  | 0 => (List.range h.f.length).map us
  | 1 => h.l.map Value.bool
  | 2 => h.r.map (Value.int .i64)
  | i + 3 => (h.f.getD i []).map (Value.int .i64)
def FamH (w : World) (lo hi : Nat) (a b c : Value) (us : Nat → Value) (h : H) : Prop := Fam w lo hi (h.f.length + 3) tyH (vH a b c us) (cH us h)
def OwnH (w : World) (lo hi : Nat) (a b c : Value) (h : H) : Prop := ∃ us, FamH w lo hi a b c us h
section
variable {w w' : World} {lo hi : Nat} {a b c : Value} {us : Nat → Value} {h : H}
theorem FamH.outer (k : FamH w lo hi a b c us h) : w.ownsRow lo 25 1 a h.f.length ((List.range h.f.length).map us) := by
  have := k.own 0 (by omega)
  simp only [tyH, vH, cH, List.length_map, List.length_range] at this
  exact this
theorem FamH.live (k : FamH w lo hi a b c us h) : OwnBs w lo b h.l := by
  have := k.own 1 (by omega)
  simp only [tyH, vH, cH, List.length_map] at this
  exact this
theorem FamH.roots (k : FamH w lo hi a b c us h) : Own w lo c h.r := by
  have := k.own 2 (by omega)
  simp only [tyH, vH, cH, List.length_map] at this
  exact this
theorem FamH.row (k : FamH w lo hi a b c us h) {i : Nat} (hi : i < h.f.length) : Own w lo (us i) (h.f.getD i []) := by
  have := k.own (i + 3) (by omega)
  simp only [tyH, vH, cH, List.length_map] at this
  exact this
theorem FamH.cell (k : FamH w lo hi a b c us h) {g cap i : Nat} (ha : a = .slice (some ⟨g, 0, none⟩) h.f.length cap) (hi : i < h.f.length) : w.cell? ⟨g, i, none⟩ = some (us i) ∧ w.frozen? ⟨g, i, none⟩ = false := by
  have o := k.outer
  subst ha
  refine ⟨?_, o.frozenAt i⟩
  rw [o.cellAt i (by omega)]
  simp [hi]
theorem FamH.shape (k : FamH w lo hi a b c us h) : (a = .slice none 0 0 ∧ h.f = []) ∨ ∃ g cap, a = .slice (some ⟨g, 0, none⟩) h.f.length cap := by
  rcases k.outer.2 with ⟨h1, h2⟩ | ⟨g, cap, cur, h1, _⟩
  · exact .inl ⟨h1, List.eq_nil_of_length_eq_zero h2⟩
  · exact .inr ⟨g, cap, h1⟩
theorem FamH.reads (k : FamH w lo hi a b c us h) : HeapAt w a b c h := by
  refine ⟨?_, owns_bools k.live, k.roots.ints⟩
  rcases k.shape with ⟨h1, h2⟩ | ⟨g, cap, h1⟩
  · exact ⟨none, 0, by rw [h1, h2]; rfl, fun h => by rw [h2] at h; simp at h⟩
  · exact ⟨_, cap, h1, fun _ => ⟨g, 0, rfl, fun i hi => ⟨us i, by rw [Nat.zero_add]; exact (k.cell h1 hi).1, (k.row hi).ints⟩⟩⟩
theorem OwnH.reads (k : OwnH w lo hi a b c h) : HeapAt w a b c h := by obtain ⟨us, k⟩ := k; exact k.reads
theorem OwnH.below (k : OwnH w lo hi a b c h) (hb : Below w.heap.size w w') : OwnH w' lo hi a b c h := by obtain ⟨us, k⟩ := k; exact ⟨us, Fam.below k hb⟩
theorem OwnH.chg {lo' hi' : Nat} (k : OwnH w lo hi a b c h) (hc : Chg lo' hi' w w') (hd : hi ≤ lo' ∨ hi' ≤ lo) : OwnH w' lo hi a b c h := by obtain ⟨us, k⟩ := k; exact ⟨us, Fam.chg k hc hd⟩
theorem OwnH.wide (k : OwnH w lo hi a b c h) {lo' hi' : Nat} (h1 : lo' ≤ lo) (h2 : hi ≤ hi') : OwnH w lo' hi' a b c h := by obtain ⟨us, k⟩ := k; exact ⟨us, Fam.wide k h1 h2⟩
theorem OwnH.nil (w : World) (lo hi : Nat) : OwnH w lo hi (.slice none 0 0) (.slice none 0 0) (.slice none 0 0) ⟨[], [], []⟩ := by
  refine ⟨fun _ => .slice none 0 0, fun k hk => ?_, fun k hk g hg => ?_, fun j k hj _ _ => ?_⟩
  · match k, hk with
    | 0, _ => exact ⟨rfl, .inl ⟨rfl, rfl⟩⟩
    | 1, _ => exact ⟨rfl, .inl ⟨rfl, rfl⟩⟩
    | 2, _ => exact ⟨rfl, .inl ⟨rfl, rfl⟩⟩
  · match k, hk with
    | 0, _ => cases hg
    | 1, _ => cases hg
    | 2, _ => cases hg
  · match j, hj with
    | 0, _ => exact .inl rfl
    | 1, _ => exact .inl rfl
    | 2, _ => exact .inl rfl
theorem getD_setL {fs : List (List Int)} {i j : Nat} {zs : List Int} (hi : i < fs.length) : (fs.set i zs).getD j [] = if j = i then zs else fs.getD j [] := by
  by_cases e : j = i
  · subst e; simp [List.getD, hi]
  · have : ¬ i = j := fun h => e h.symm
    simp [List.getD, e, this]
/-- A row's content changes where it lies. -/
theorem FamH.setRow (k : FamH w lo hi a b c us h) {i : Nat} (hi0 : i < h.f.length) {zs : List Int} (hg : w.grownBy w' (us i).ownBlock) (ho : Own w' lo (us i) zs) : FamH w' lo hi a b c us ⟨h.f.set i zs, h.l, h.r⟩ := by
  have := Fam.set k (k := i + 3) (by omega) (ds := zs.map (Value.int .i64)) hg (by simp only [tyH, vH, List.length_map]; exact ho)
  unfold FamH
  rw [List.length_set]
  refine this.congr (fun _ _ => rfl) fun j hj => ?_
  match j with
  | 0 => rw [upd_other _ _ (by omega)]; simp [cH]
  | 1 => rw [upd_other _ _ (by omega)]; rfl
  | 2 => rw [upd_other _ _ (by omega)]; rfl
  | j + 3 =>
    by_cases e : j = i
    · subst e; rw [upd_same]; simp only [cH]; rw [getD_setL hi0, if_pos rfl]
    · rw [upd_other _ _ (by omega)]; simp only [cH]; rw [getD_setL hi0, if_neg e]
theorem FamH.setLive (k : FamH w lo hi a b c us h) {bs : List Bool} (hg : w.grownBy w' b.ownBlock) (ho : OwnBs w' lo b bs) : FamH w' lo hi a b c us ⟨h.f, bs, h.r⟩ := by
  have := Fam.set k (k := 1) (by omega) (ds := bs.map Value.bool) hg (by simp only [tyH, vH, List.length_map]; exact ho)
  refine this.congr (fun _ _ => rfl) fun j hj => ?_
  match j with
  | 0 => rw [upd_other _ _ (by omega)]; rfl
  | 1 => rw [upd_same]; rfl
  | 2 => rw [upd_other _ _ (by omega)]; rfl
  | j + 3 => rw [upd_other _ _ (by omega)]; rfl
theorem FamH.setRoots (k : FamH w lo hi a b c us h) {zs : List Int} (hg : w.grownBy w' c.ownBlock) (ho : Own w' lo c zs) : FamH w' lo hi a b c us ⟨h.f, h.l, zs⟩ := by
  have := Fam.set k (k := 2) (by omega) (ds := zs.map (Value.int .i64)) hg (by simp only [tyH, vH, List.length_map]; exact ho)
  refine this.congr (fun _ _ => rfl) fun j hj => ?_
  match j with
  | 0 => rw [upd_other _ _ (by omega)]; rfl
  | 1 => rw [upd_other _ _ (by omega)]; rfl
  | 2 => rw [upd_same]; rfl
  | j + 3 => rw [upd_other _ _ (by omega)]; rfl
/-- Another list for what is live. -/
theorem FamH.putLive (k : FamH w lo hi a b c us h) {b' : Value} {bs : List Bool} (ho : OwnBs w lo b' bs) {hi' : Nat} (hh : hi ≤ hi') (hu : ∀ g, b'.ownBlock = some g → (hi ≤ g ∧ g < hi') ∨ b.ownBlock = some g) : FamH w lo hi' a b' c us ⟨h.f, bs, h.r⟩ := by
  have := Fam.put k (k := 1) (u := b') (ds := bs.map Value.bool) (by simp only [tyH, List.length_map]; exact ho) hh hu (by omega)
  refine this.congr (fun j hj => ?_) fun j hj => ?_
  · match j with
    | 0 => rw [upd_other _ _ (by omega)]; rfl
    | 1 => rw [upd_same]; rfl
    | 2 => rw [upd_other _ _ (by omega)]; rfl
    | j + 3 => rw [upd_other _ _ (by omega)]; rfl
  · match j with
    | 0 => rw [upd_other _ _ (by omega)]; rfl
    | 1 => rw [upd_same]; rfl
    | 2 => rw [upd_other _ _ (by omega)]; rfl
    | j + 3 => rw [upd_other _ _ (by omega)]; rfl
theorem FamH.putRoots (k : FamH w lo hi a b c us h) {c' : Value} {zs : List Int} (ho : Own w lo c' zs) {hi' : Nat} (hh : hi ≤ hi') (hu : ∀ g, c'.ownBlock = some g → (hi ≤ g ∧ g < hi') ∨ c.ownBlock = some g) : FamH w lo hi' a b c' us ⟨h.f, h.l, zs⟩ := by
  have := Fam.put k (k := 2) (u := c') (ds := zs.map (Value.int .i64)) (by simp only [tyH, List.length_map]; exact ho) hh hu (by omega)
  refine this.congr (fun j hj => ?_) fun j hj => ?_
  · match j with
    | 0 => rw [upd_other _ _ (by omega)]; rfl
    | 1 => rw [upd_other _ _ (by omega)]; rfl
    | 2 => rw [upd_same]; rfl
    | j + 3 => rw [upd_other _ _ (by omega)]; rfl
  · match j with
    | 0 => rw [upd_other _ _ (by omega)]; rfl
    | 1 => rw [upd_other _ _ (by omega)]; rfl
    | 2 => rw [upd_same]; rfl
    | j + 3 => rw [upd_other _ _ (by omega)]; rfl
theorem range_set (us : Nat → Value) (n i : Nat) (u : Value) : ((List.range n).map us).set i u = (List.range n).map (upd us i u) := by
  apply List.ext_getElem?
  intro j
  rw [List.getElem?_set]
  by_cases hj : j < n
  · by_cases e : i = j
    · subst e; simp [hj, upd]
    · have : ¬ j = i := fun h => e h.symm
      simp [hj, e, upd, this]
  · have h1 : ((List.range n).map (upd us i u))[j]? = none := by simp; omega
    have h2 : ((List.range n).map us)[j]? = none := by simp; omega
    rw [h1, h2]
    split
    · split
      · rename_i p q; simp at q; omega
      · rfl
    · rfl
/-- Another list for a row: the outer list's cell is stored. -/
theorem FamH.putRow (k : FamH w lo hi a b c us h) {i : Nat} (hi0 : i < h.f.length) {u : Value} {zs : List Int} (ho : Own w lo u zs) {hi' : Nat} (hh : hi ≤ hi') (hu : ∀ g, u.ownBlock = some g → (hi ≤ g ∧ g < hi') ∨ (us i).ownBlock = some g) {g cap : Nat} (ha : a = .slice (some ⟨g, 0, none⟩) h.f.length cap) :
    FamH (w.setCell ⟨g, i, none⟩ u) lo hi' a b c (upd us i u) ⟨h.f.set i zs, h.l, h.r⟩ ∧ w.grownBy (w.setCell ⟨g, i, none⟩ u) (some g) := by
  subst ha
  obtain ⟨s1, s2⟩ := k.outer.stored i u
  refine ⟨?_, s2⟩
  have k1 := Fam.put k (k := i + 3) (u := u) (ds := zs.map (Value.int .i64)) (by simp only [tyH, List.length_map]; exact ho) hh hu (by omega)
  have k2 := Fam.set k1 (k := 0) (by omega) (ds := (List.range h.f.length).map (upd us i u)) (w' := w.setCell ⟨g, i, none⟩ u) (by rw [upd_other _ _ (by omega)]; exact s2) (by rw [upd_other _ _ (by omega)]; simp only [tyH, vH, List.length_map, List.length_range]; rw [← range_set]; exact s1)
  unfold FamH
  rw [List.length_set]
  refine k2.congr (fun j hj => ?_) fun j hj => ?_
  · match j with
    | 0 => rw [upd_other _ _ (by omega)]; rfl
    | 1 => rw [upd_other _ _ (by omega)]; rfl
    | 2 => rw [upd_other _ _ (by omega)]; rfl
    | j + 3 =>
      by_cases e : j = i
      · subst e; rw [upd_same]; simp only [vH]; rw [upd_same]
      · rw [upd_other _ _ (by omega)]; simp only [vH]; rw [upd_other _ _ e]
  · match j with
    | 0 => rw [upd_same]; simp [cH]
    | 1 => rw [upd_other _ _ (by omega), upd_other _ _ (by omega)]; rfl
    | 2 => rw [upd_other _ _ (by omega), upd_other _ _ (by omega)]; rfl
    | j + 3 =>
      rw [upd_other _ _ (by omega)]
      by_cases e : j = i
      · subst e; rw [upd_same]; simp only [cH]; rw [getD_setL hi0, if_pos rfl]
      · rw [upd_other _ _ (by omega)]; simp only [cH]; rw [getD_setL hi0, if_neg e]
/-- One row more behind all: another outer list. -/
theorem FamH.addRow (k : FamH w lo hi a b c us h) {a' u : Value} {zs : List Int} (ho : Own w lo u zs) (hou : w.ownsRow lo 25 1 a' (h.f.length + 1) ((List.range h.f.length).map us ++ [u])) {hi1 hi' : Nat} (hh : hi ≤ hi1) (hh' : hi1 ≤ hi') (hu : ∀ g, u.ownBlock = some g → hi ≤ g ∧ g < hi1) (ha : ∀ g, a'.ownBlock = some g → (hi1 ≤ g ∧ g < hi') ∨ a.ownBlock = some g) :
    FamH w lo hi' a' b c (upd us h.f.length u) ⟨h.f ++ [zs], h.l, h.r⟩ := by
  have k1 := Fam.grow k (u := u) (ds := zs.map (Value.int .i64)) (by simp only [tyH, List.length_map]; exact ho) hh hu
  have k2 := Fam.put k1 (k := 0) (u := a') (ds := (List.range h.f.length).map us ++ [u]) (by simp only [tyH, List.length_append, List.length_map, List.length_range, List.length_singleton]; exact hou) hh' (by rw [upd_other _ _ (by omega)]; exact ha) (by omega)
  unfold FamH
  have e : (h.f ++ [zs]).length + 3 = h.f.length + 3 + 1 := by simp
  rw [e]
  refine k2.congr (fun j hj => ?_) fun j hj => ?_
  · match j with
    | 0 => rw [upd_same]; rfl
    | 1 => rw [upd_other _ _ (by omega), upd_other _ _ (by omega)]; rfl
    | 2 => rw [upd_other _ _ (by omega), upd_other _ _ (by omega)]; rfl
    | j + 3 =>
      rw [upd_other _ _ (by omega)]
      by_cases e : j = h.f.length
      · subst e; rw [upd_same]; simp only [vH]; rw [upd_same]
      · rw [upd_other _ _ (by omega)]; simp only [vH]; rw [upd_other _ _ e]
  · match j with
    | 0 =>
      rw [upd_same]; simp only [cH, List.length_append, List.length_singleton]
      rw [List.range_succ, List.map_append]
      congr 1
      · exact List.map_congr_left fun x hx => by have : x < h.f.length := by simpa using hx
                                                 rw [upd_other _ _ (by omega)]
      · simp [upd]
    | 1 => rw [upd_other _ _ (by omega), upd_other _ _ (by omega)]; rfl
    | 2 => rw [upd_other _ _ (by omega), upd_other _ _ (by omega)]; rfl
    | j + 3 =>
      rw [upd_other _ _ (by omega)]
      by_cases e : j = h.f.length
      · subst e; rw [upd_same]; simp [cH]
      · rw [upd_other _ _ (by omega)]; simp only [cH]
        have : j < h.f.length := by omega
        simp [List.getD, List.getElem?_append_left this]
end
end Go.Proofs.Ytdagkbgobnaijab
