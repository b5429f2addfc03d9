/- What the laws rest on, part 3. -/
import Derived.Test.YtkkigoamphkalaaQE2
import Derived.Deep.Cut
namespace Go.Proofs.Ytkkigoamphkalaa
open Go.RowKit Ph

theorem fam_keepRow {w w' : World} {lo hi n g : Nat} {v : Nat → Value} {cs : Nat → List Value} {ds : Array Value} (k : Fam w lo hi n tyH v cs) (hr : Row w g 30 ds) (hb : ∀ i, i ≠ g → i < w.heap.size → w'.heap[i]? = w.heap[i]?) : Fam w' lo hi n tyH v cs :=
  ⟨fun j hj => owns_block (k.own j hj) fun g' hg' => hb g' (owns_ne_row (k.own j hj) hr (tyH_ne j) hg') (owns_lt (k.own j hj) hg').2, k.lt, k.ap⟩
def OwnX (w : World) (lo hi : Nat) (a b c u : Value) (h : H) (zs : List Int) : Prop := ∃ us, Fam w lo hi (h.f.length + 3 + 1) tyH (upd (vH a b c us) (h.f.length + 3) u) (upd (cH us h) (h.f.length + 3) (zs.map (Value.int .i64)))
section
variable {w : World} {lo hi hi' : Nat} {a b c u : Value} {h : H} {zs : List Int}
theorem OwnX.of (k : OwnH w lo hi a b c h) (ho : Own w lo u zs) (hu : ∀ g, u.ownBlock = some g → hi ≤ g ∧ g < hi') (hh : hi ≤ hi') : OwnX w lo hi' a b c u h zs := by
  obtain ⟨us, k⟩ := k
  exact ⟨us, Fam.grow k (u := u) (ds := zs.map (Value.int .i64)) (by simp only [tyH, List.length_map]; exact ho) hh hu⟩
theorem OwnX.cellRow {g : Nat} {cs : Array Value} (k : OwnX w lo hi a b c u h zs) (hr : Row w g 30 cs) (j : Nat) (x : Value) : OwnX (w.setCell ⟨g, j, none⟩ x) lo hi a b c u h zs := by
  obtain ⟨us, k⟩ := k
  exact ⟨us, fam_keepRow k hr fun i hi _ => heap_setCell_other w ⟨g, j, none⟩ i _ hi⟩
theorem OwnX.live (k : OwnX w lo hi a b c u h zs) (hl : lo ≤ hi) (hs : hi ≤ w.heap.size) (hn : h.l.length ≤ 1000) (x : Bool) (ty : TypeId) :
    ∃ v1 w1, (Builtin.append_ #[23, 23] ty #[b, .slice (some ⟨w.heap.size, 0, none⟩) 1 1]).run Try.prog (w.alloc (.cells #[.bool x] 4)) = .ok v1 w1 ∧ OwnX w1 lo w1.heap.size a v1 c u ⟨h.f, h.l ++ [x], h.r⟩ zs ∧ (∀ g cs, Row w g 30 cs → Row w1 g 30 cs) ∧ (∀ B w0, B ≤ lo → Below B w0 w → Below B w0 w1) ∧ w.heap.size ≤ w1.heap.size ∧ ∃ p q, v1 = .slice p (h.l.length + 1) q := by
  obtain ⟨i0, hi0, hz0, hz1, hz2⟩ := info_parts info_boolz
  obtain ⟨us, hf0⟩ := k
  have hf := Fam.below hf0 (below1 w (.cells #[.bool x] 4))
  have ho : OwnBs (w.alloc (.cells #[.bool x] 4)) lo b h.l := by
    have := hf.own 1 (by omega)
    rw [upd_other _ _ (by omega), upd_other _ _ (by omega)] at this
    simp only [tyH, vH, cH, List.length_map] at this
    exact this
  obtain ⟨v', W', hr, h1, h2, h3⟩ := run_appOwn (P := Try.prog) (w.alloc (.cells #[.bool x] 4)) lo 23 ty 4 i0 (.bool false) 1 Try.underlying23 hi0 hz0 hz1 hz2 rfl b h.l.length _ ho _ _ (src_bool w x) (by simp; unfold maxLen; omega) (by simp; omega) (by simp; omega)
  have h1' : OwnBs W' lo v' (h.l ++ [x]) := by unfold OwnBs; rw [List.map_append, List.length_append]; exact h1
  have hsz : (w.alloc (.cells #[.bool x] 4)).heap.size = w.heap.size + 1 := World.size_alloc _ _
  have h2s := h2.size
  have k2 := Fam.turn hf (k := 1) (by omega) (u := v') (ds := (h.l ++ [x]).map Value.bool) (hi' := W'.heap.size) (by rw [upd_other _ _ (by omega)]; exact h2) (by simp only [tyH, List.length_map]; exact h1') (by omega) (fun g hg => by
    rw [upd_other _ _ (by omega)]
    rcases h3 with h3 | h3
    · exact .inr (show b.ownBlock = some g from h3.symm.trans hg)
    · rw [hg] at h3; cases h3; exact .inl ⟨by omega, (owns_lt h1' hg).2⟩)
  refine ⟨v', W', hr, ⟨us, k2.congr (fun j hj => ?_) fun j hj => ?_⟩, fun g cs hr => row_grown ho (by decide) h2 (Row.alloc hr _), fun B w0 hB hb => (hb.alloc (by omega) _).grown h2 (by omega) (fun g hg => by have := (owns_lt ho hg).1; omega), by omega, ?_⟩
  · by_cases e1 : j = 1
    · subst e1; rw [upd_same, upd_other _ _ (by omega)]; rfl
    · rw [upd_other _ _ e1]
      by_cases e2 : j = h.f.length + 3
      · subst e2; rw [upd_same, upd_same]
      · rw [upd_other _ _ e2, upd_other _ _ e2]
        match j with
        | 0 => rfl
        | 1 => exact absurd rfl e1
        | 2 => rfl
        | j + 3 => rfl
  · by_cases e1 : j = 1
    · subst e1; rw [upd_same, upd_other _ _ (by omega)]; rfl
    · rw [upd_other _ _ e1]
      by_cases e2 : j = h.f.length + 3
      · subst e2; rw [upd_same, upd_same]
      · rw [upd_other _ _ e2, upd_other _ _ e2]
        match j with
        | 0 => rfl
        | 1 => exact absurd rfl e1
        | 2 => rfl
        | j + 3 => rfl
  · rcases h1.2 with ⟨_, h0⟩ | ⟨g, cap, cur, hv, _⟩
    · simp at h0
    · exact ⟨_, _, hv⟩
theorem OwnX.rows (k : OwnX w lo hi a b c u h zs) (hl : lo ≤ hi) (hs : hi ≤ w.heap.size) (hn : h.f.length ≤ 1000) (hu1 : u.oneCell' = true) (ty : TypeId) :
    ∃ v1 w1, (Builtin.append_ #[22, 22] ty #[a, .slice (some ⟨w.heap.size, 0, none⟩) 1 1]).run Try.prog (w.alloc (.cells #[u] 24)) = .ok v1 w1 ∧ OwnH w1 lo w1.heap.size v1 b c ⟨h.f ++ [zs], h.l, h.r⟩ ∧ (∀ g cs, Row w g 30 cs → Row w1 g 30 cs) ∧ (∀ B w0, B ≤ lo → Below B w0 w → Below B w0 w1) ∧ w.heap.size ≤ w1.heap.size := by
  obtain ⟨i0, hi0, hz0, hz1, hz2⟩ := info_parts info_ints
  obtain ⟨us, hf0⟩ := k
  have hf := Fam.below hf0 (below1 w (.cells #[u] 24))
  have ho : (w.alloc (.cells #[u] 24)).ownsRow lo 24 1 a h.f.length ((List.range h.f.length).map us) := by
    have := hf.own 0 (by omega)
    rw [upd_other _ _ (by omega), upd_other _ _ (by omega)] at this
    simp only [tyH, vH, cH, List.length_map, List.length_range] at this
    exact this
  obtain ⟨v', W', hr, h1, h2, h3⟩ := run_appOwn (P := Try.prog) (w.alloc (.cells #[u] 24)) lo 22 ty 24 i0 (.slice none 0 0) 24 Try.underlying22 hi0 hz0 hz1 hz2 rfl a h.f.length _ ho _ [u] (src_one w _ hu1) (by simp; unfold maxLen; omega) (by simp; omega) (by simp; omega)
  have h1' : W'.ownsRow lo 24 1 v' (h.f.length + 1) ((List.range h.f.length).map us ++ [u]) := h1
  have hsz : (w.alloc (.cells #[u] 24)).heap.size = w.heap.size + 1 := World.size_alloc _ _
  have h2s := h2.size
  have k2 := Fam.turn hf (k := 0) (by omega) (u := v') (ds := (List.range h.f.length).map us ++ [u]) (hi' := W'.heap.size) (by rw [upd_other _ _ (by omega)]; exact h2) (by simp only [tyH, List.length_append, List.length_map, List.length_range, List.length_singleton]; exact h1') (by omega) (fun g hg => by
    rw [upd_other _ _ (by omega)]
    rcases h3 with h3 | h3
    · exact .inr (show a.ownBlock = some g from h3.symm.trans hg)
    · rw [hg] at h3; cases h3; exact .inl ⟨by omega, (owns_lt h1' hg).2⟩)
  refine ⟨v', W', hr, ⟨upd us h.f.length u, ?_⟩, fun g cs hr => row_grown ho (by decide) h2 (Row.alloc hr _), fun B w0 hB hb => (hb.alloc (by omega) _).grown h2 (by omega) (fun g hg => by have := (owns_lt ho hg).1; omega), by omega⟩
  unfold FamH
  have e : (h.f ++ [zs]).length + 3 = h.f.length + 3 + 1 := by simp
  rw [e]
  refine k2.congr (fun j hj => ?_) fun j hj => ?_
  · match j with
    | 0 => rw [upd_same]; rfl
    | 1 => rw [upd_other _ _ (by omega), upd_other _ _ (by omega)]; rfl
    | 2 => rw [upd_other _ _ (by omega), upd_other _ _ (by omega)]; rfl
    | j + 3 =>
      rw [upd_other _ _ (by omega)]
      by_cases e : j = h.f.length
      · subst e; rw [upd_same]; simp only [vH]; rw [upd_same]
      · rw [upd_other _ _ (by omega)]; simp only [vH]; rw [upd_other _ _ e]
  · match j with
    | 0 =>
      rw [upd_same]; simp only [cH, List.length_append, List.length_singleton]
      rw [List.range_succ, List.map_append]
      have e1 : (List.range h.f.length).map (upd us h.f.length u) = (List.range h.f.length).map us := List.map_congr_left fun x hx => by
        have : x < h.f.length := by simpa using hx
        rw [upd_other _ _ (by omega)]
      rw [e1, List.map_singleton, upd_same]
    | 1 => rw [upd_other _ _ (by omega), upd_other _ _ (by omega)]; rfl
    | 2 => rw [upd_other _ _ (by omega), upd_other _ _ (by omega)]; rfl
    | j + 3 =>
      rw [upd_other _ _ (by omega)]
      by_cases e : j = h.f.length
      · subst e; rw [upd_same]; simp [cH]
      · rw [upd_other _ _ (by omega)]; simp only [cH]
        have : j < h.f.length := by omega
        simp [List.getD, List.getElem?_append_left this]
end
end Go.Proofs.Ytkkigoamphkalaa
namespace Go.Proofs.Ytkkigoamphkalaa.Ph

theorem getD_setI {zs : List Int} {i j : Nat} {x : Int} (hi : i < zs.length) : (zs.set i x).getD j 0 = if j = i then x else zs.getD j 0 := by
  by_cases e : j = i
  · subst e; simp [List.getD, hi]
  · rw [if_neg e]
    simp only [List.getD]
    rw [List.getElem?_set_ne (Ne.symm e)]
end Go.Proofs.Ytkkigoamphkalaa.Ph
namespace Go.Proofs.Ytkkigoamphkalaa
open Go.RowKit Ph

theorem inB_iff {lo hi z : Int} : inB lo hi z = true ↔ lo ≤ z ∧ z ≤ hi := by unfold inB; rw [Bool.and_eq_true, decide_eq_true_eq, decide_eq_true_eq]
end Go.Proofs.Ytkkigoamphkalaa
namespace Go.Proofs.Ytkkigoamphkalaa
open Go.RowKit Ph

theorem Own.store1 {w : World} {B g n cap : Nat} {S : List Int} (h : Own w B (.slice (some ⟨g, 0, none⟩) n cap) S) (hn : S.length = n) {z : Nat} (hz : z < n) (x : Int) : Own (w.setCell ⟨g, z, none⟩ (.int .i64 x)) B (.slice (some ⟨g, 0, none⟩) n cap) (S.set z x) ∧ w.grownBy (w.setCell ⟨g, z, none⟩ (.int .i64 x)) (some g) ∧ w.cell? ⟨g, z, none⟩ = some (.int .i64 (S.getD z 0)) ∧ w.frozen? ⟨g, z, none⟩ = false := by
  unfold Own at h
  rw [hn] at h
  obtain ⟨s1, s2⟩ := h.stored z (.int .i64 x)
  refine ⟨?_, s2, ?_, h.frozenAt z⟩
  · unfold Own
    rw [List.length_set, hn, List.map_set]
    exact s1
  · rw [h.cellAt z (by omega), List.getElem?_map, List.getElem?_eq_getElem (by omega)]
    simp [List.getD, List.getElem?_eq_getElem (show z < S.length by omega)]
end Go.Proofs.Ytkkigoamphkalaa
namespace Go.Proofs.Ytkkigoamphkalaa
open Go.RowKit Ph

theorem rep_ints (n : Nat) : (madeCells (Value.int .i64 0).cells (n * 1)).toList = (List.replicate n (0 : Int)).map (Value.int .i64) := by
  rw [Nat.mul_one, show (Value.int .i64 0).cells = #[.int .i64 0] from rfl, toList_madeCells_one, List.map_replicate]
end Go.Proofs.Ytkkigoamphkalaa
namespace Go.Proofs.Ytkkigoamphkalaa
open Go.RowKit Ph

theorem chgRow (w : World) (g : Nat) (cs : Array Value) : Chg g (g + 1) w (w.setRow g cs) :=
  have bb := below_setRow (Below.refl g w) (Nat.le_refl _) cs
  ⟨bb.os, bb.tape, bb.output, bb.size, fun i _ hx => setRow_other w g i cs (by omega)⟩
theorem Own.chg {w w' : World} {B lo hi : Nat} {v : Value} {zs : List Int} (h : Own w B v zs) (hc : Chg lo hi w w') (hn : ∀ g, v.ownBlock = some g → g < lo ∨ hi ≤ g) : Own w' B v zs := owns_block h fun g hg => hc.block g (owns_lt h hg).2 (hn g hg)
end Go.Proofs.Ytkkigoamphkalaa
namespace Go.Proofs.Ytkkigoamphkalaa.Ph
def newS (h : H) (m : Nat) : H × Int := if placeOf h.l < h.l.length then (put1 h (placeOf h.l) m, (placeOf h.l : Int)) else if h.f.length = 12 then (h, -1) else (⟨h.f ++ [List.replicate m (-1)], h.l ++ [true], h.r⟩, (h.f.length : Int))
/-- The first j of m numbers are -1, the others 0. -/
def fillN (m j : Nat) : List Int := List.replicate j (-1) ++ List.replicate (m - j) 0
theorem fillN_zero (m : Nat) : fillN m 0 = List.replicate m 0 := by simp [fillN]
theorem fillN_all (m : Nat) : fillN m m = List.replicate m (-1) := by simp [fillN]
theorem fillN_len {m j : Nat} (h : j ≤ m) : (fillN m j).length = m := by simp [fillN]; omega
theorem fillN_set {m j : Nat} (h : j < m) : (fillN m j).set j (-1) = fillN m (j + 1) := by
  unfold fillN
  have e : List.replicate (m - j) (0 : Int) = 0 :: List.replicate (m - (j + 1)) 0 := by
    rw [show m - j = (m - (j + 1)) + 1 by omega, List.replicate_succ]
  rw [List.set_append_right j _ (by simp), List.length_replicate, Nat.sub_self, e, List.set_cons_zero]
  rw [List.replicate_succ' (n := j), List.append_assoc]; rfl
end Go.Proofs.Ytkkigoamphkalaa.Ph
namespace Go.Proofs.Ytkkigoamphkalaa
open Go.RowKit Ph

theorem rfl' {v : Value} {h h' : H} {m : Nat} {z : Int} (k : newS h m = (h', z)) : Ending.returned (.tuple #[v, .int .i64 z]) = .returned (.tuple #[v, .int .i64 (newS h m).2]) := by rw [k]
set_option maxRecDepth 100000 in
set_option maxHeartbeats 6400000 in
theorem s_l5New (a b c : Value) (h : H) (m lo hi : Nat) (w : World) (hO : OwnH w lo hi a b c h) (hl : lo ≤ hi) (hs : hi ≤ w.heap.size) (hn : h.f.length ≤ 12) (hll : h.l.length = h.f.length) (hm : m ≤ 3) :
    Calls Try.prog 129 #[hv a b c, .int .i64 (m : Int)] w fun e w' => ∃ a' b' c', e = .returned (.tuple #[hv a' b' c', .int .i64 (newS h m).2]) ∧ OwnH w' lo w'.heap.size a' b' c' (newS h m).1 ∧ Below lo w w' ∧ ∀ g cs, Row w g 30 cs → Row w' g 30 cs := by
  obtain ⟨i0, hi0, hz0, hz1, hz2⟩ := info_parts info_int
  obtain ⟨⟨pa, qa, rfl⟩, ⟨pb, qb, rfl⟩, ⟨pc, qc, rfl⟩⟩ := hO.shapes
  have HP := Lib.hid (fun k => place_of (l := h.l) (k := k)); have HQ := Lib.hid (place_none (l := h.l))
  have HNS : Hid (newS h m = if placeOf h.l < h.l.length then (put1 h (placeOf h.l) m, (placeOf h.l : Int)) else if h.f.length = 12 then (h, -1) else (⟨h.f ++ [List.replicate m (-1)], h.l ++ [true], h.r⟩, (h.f.length : Int))) := rfl
  have HNL := Lib.hid hll
  rw [hll] at HNS hO ⊢
  clear hll
  generalize hnn : h.f.length = n at *
  have HNF := Lib.hid hnn
  clear hnn
  generalize h.r.length = nr at *
  have hb0 : Below w.heap.size w ((w.alloc (.cells (c3 (.slice pa n qa) (.slice pb n qb) (.slice pc nr qc)) 30)).alloc (.cells (c3 (.slice none 0 0) (.slice none 0 0) (.slice none 0 0)) 30)) := (below1 w (.cells (c3 (.slice pa n qa) (.slice pb n qb) (.slice pc nr qc)) 30)).alloc (by simp) (.cells (c3 (.slice none 0 0) (.slice none 0 0) (.slice none 0 0)) 30)
  have O0 := Lib.hid (hO.below hb0)
  have B0 := Lib.hid hb0
  have P0 := Lib.hid (show RowH _ _ (.slice pa n qa) (.slice pb n qb) (.slice pc nr qc) from (Row.new w 30 (c3 (.slice pa n qa) (.slice pb n qb) (.slice pc nr qc))).alloc (.cells (c3 (.slice none 0 0) (.slice none 0 0) (.slice none 0 0)) 30))
  have R0 := Lib.hid (show RowH _ (w.heap.size + 1) (.slice none 0 0) (.slice none 0 0) (.slice none 0 0) from Row.new1 w (.cells (c3 (.slice pa n qa) (.slice pb n qb) (.slice pc nr qc)) 30) 30 (c3 (.slice none 0 0) (.slice none 0 0) (.slice none 0 0)))
  have HL := Lib.hid hl; have HS := Lib.hid hs
  have hw0 : ((w.alloc (.cells (c3 (.slice pa n qa) (.slice pb n qb) (.slice pc nr qc)) 30)).alloc (.cells (c3 (.slice none 0 0) (.slice none 0 0) (.slice none 0 0)) 30)).heap.size = w.heap.size + 1 + 1 := by simp
  have HW0 := Lib.hid hw0
  clear hO hb0 hl hs hw0
  go_enter Try.func129, Try.ntmps129
  go_wp2_with (at_make; refine wpList_make_full _ rfl _ _ 24 rfl w.heap.size 3 i0 (.int .i64 0) 1 Try.underlying24 hi0 hz0 hz1 .i64 .i64 _ _ m rfl rfl rfl rfl (by rw [hz2]; omega) (by unfold maxLen; omega) (by rw [HW0.out]; omega) ?_; intro w1 hown hgr
               rw [rep_ints, HW0.out] at hown
               have U1 : Hid (Own w1 w.heap.size (.slice (some ⟨w.heap.size + 1 + 1, 0, none⟩) m m) (List.replicate m 0)) := (by { unfold Hid Own; rw [List.length_replicate]; exact hown })
               have bb1 := (Below.refl ((w.alloc (.cells (c3 (.slice pa n qa) (.slice pb n qb) (.slice pc nr qc)) 30)).alloc (.cells (c3 (.slice none 0 0) (.slice none 0 0) (.slice none 0 0)) 30)).heap.size ((w.alloc (.cells (c3 (.slice pa n qa) (.slice pb n qb) (.slice pc nr qc)) 30)).alloc (.cells (c3 (.slice none 0 0) (.slice none 0 0) (.slice none 0 0)) 30))).grown hgr (Nat.le_refl _) (fun k hk => by cases hk)
               have B1 := Lib.hid (bst B0.out bb1 B0.out.size)
               have O1 := Lib.hid (O0.out.below bb1)
               have P1 := Lib.hid (P0.out.below bb1)
               have R1 := Lib.hid (R0.out.below bb1)
               clear hown hgr bb1)
  clear B0 O0 P0 R0
  go_loopw [14] (fun i wr => ∃ j : Nat, j ≤ m ∧ i = .int .i64 j ∧ Hid (Own wr w.heap.size (.slice (some ⟨w.heap.size + 1 + 1, 0, none⟩) m m) (fillN m j)) ∧ Hid (Below w.heap.size w wr) ∧ Hid (OwnH wr lo hi (.slice pa n qa) (.slice pb n qb) (.slice pc nr qc) h) ∧ Hid (RowH wr w.heap.size (.slice pa n qa) (.slice pb n qb) (.slice pc nr qc)) ∧ Hid (RowH wr (w.heap.size + 1) (.slice none 0 0) (.slice none 0 0) (.slice none 0 0))) (fun i _ => m - (intOf i).toNat)
  case atStart => exact ⟨0, Nat.zero_le _, rfl, by rw [fillN_zero]; exact U1, B1, O1, P1, R1⟩
  case round =>
    obtain ⟨j, hj, rfl, hU, hB, hO, hP, hR⟩ := hrel
    by_cases hlt : j < m
    · obtain ⟨s1, s2, s3, s4⟩ := hU.out.store1 (fillN_len hj) hlt (-1)
      rw [fillN_set hlt] at s1
      have B2 := Lib.hid (hB.out.grown s2 hB.out.size (fun k hk => by cases hk; omega))
      have cc := Chg.of_grown (lo := w.heap.size + 1 + 1) (hi := w.heap.size + 1 + 1 + 1) s2 (fun k hk => by cases hk; omega)
      have O2 := Lib.hid (hO.out.chg cc (.inl (by have := HS.out; omega)))
      have P2 := Lib.hid (show RowH _ _ _ _ _ from Row.chg hP.out cc (.inl (by omega)))
      have R2 := Lib.hid (show RowH _ _ _ _ _ from Row.chg hR.out cc (.inl (by omega)))
      have S1 := Lib.hid s1
      have i1 : (j : Int) < (m : Int) := by omega
      clear s1 s2 cc
      generalize (fillN m j).getD j 0 = x at *
      go_wp2_with fail
      go_roundw
      case rel => exact ⟨j + 1, by omega, by go_num, S1, B2, O2, P2, R2⟩
      case measure => simp [intOf]; omega
    obtain rfl : j = m := by omega
    rw [fillN_all] at hU
    generalize hrow : List.replicate j (-1 : Int) = row at *
    have HROW := Lib.hid hrow; clear hrow
    have d0 := hP.out.c0
    have d1 := hP.out.c1
    have hUl : Hid (w.heap.size + 1 + 1 < wr.heap.size) := (owns_lt hU.out rfl).2
    clear hlt
    go_wp2_with fail
    generalize hws : w.heap.size = W at *
    go_loop [24] (fun i => ∃ k : Nat, k ≤ n ∧ i = .int .i64 k ∧ Hid (∀ i, i < k → h.l.getD i false = true)) (fun i => n - (intOf i).toNat)
    case atStart => exact ⟨0, Nat.zero_le _, rfl, fun i hi => by omega⟩
    case round =>
      obtain ⟨k, hk, rfl, hall⟩ := hrel
      by_cases hkn : k < n
      · obtain ⟨gb, cb, hbv, qb1, fb1, oL, cL⟩ := putLiveB hO.out (j := k) (by rw [HNL.out]; exact hkn) true
        rw [HNL.out] at hbv
        cases hbv
        have hgP : gb ≠ W := OwnH.liveNe hO.out hP.out
        have hgR : gb ≠ W + 1 := OwnH.liveNe hO.out hR.out
        have i1 : (k : Int) < (n : Int) := by omega
        have i00 : (0 : Int) ≤ (k : Int) := by omega
        generalize hx : h.l.getD k false = x at *
        have HX := Lib.hid hx; clear hx
        cases x
        · have hp := HP.out k (by rw [HNL.out]; exact hkn) hall.out HX.out
          have HE : Hid (newS h j = (put1 h k j, (k : Int))) := by unfold Hid; rw [HNS.out, hp, if_pos hkn]
          clear hp
          have P2 : RowH _ _ _ _ _ := Row.other hP.out ⟨gb, k, none⟩ (Ne.symm hgP) (.bool true)
          have R2 : RowH _ _ _ _ _ := Row.other hR.out ⟨gb, k, none⟩ (Ne.symm hgR) (.bool true)
          have U2 : Own _ W (.slice (some ⟨W + 1 + 1, 0, none⟩) j j) row := Own.chg hU.out cL (fun g' e => .inr (by have e' : some (W + 1 + 1) = some g' := e; cases e'; have := HS.out; omega))
          have B2 := below_chg (hB.out.mono (show lo ≤ W by have := HL.out; have := HS.out; omega)) cL (Nat.le_refl _) (by have := HL.out; have := HS.out; have := hUl.out; omega)
          have sz2 := World.size_setCell wr ⟨gb, k, none⟩ (.bool true)
          obtain ⟨ga, ca, xx, hax, qf1, ff1, hlo, hap, oN⟩ := putRow1 oL (j := k) (by simp only; rw [HNF.out]; exact hkn) (U2.mono HS.out) HL.out (by rw [sz2]; have := HS.out; have := hUl.out; omega)
          simp only [HNF.out] at hax
          cases hax
          have hga1 : ga ≠ W := hap _ _ P2
          have hga2 : ga ≠ W + 1 := hap _ _ R2
          have P3 := Lib.hid (show RowH _ _ _ _ _ from Row.other P2 ⟨ga, k, none⟩ (Ne.symm hga1) (.slice (some ⟨W + 1 + 1, 0, none⟩) j j))
          have R3 := Lib.hid (show RowH _ _ _ _ _ from Row.other R2 ⟨ga, k, none⟩ (Ne.symm hga2) (.slice (some ⟨W + 1 + 1, 0, none⟩) j j))
          have B3 := Lib.hid (B2.setCell (p := ⟨ga, k, none⟩) hlo (.slice (some ⟨W + 1 + 1, 0, none⟩) j j))
          have O3 := Lib.hid oN
          have sz3 := Lib.hid (World.size_setCell (wr.setCell ⟨gb, k, none⟩ (.bool true)) ⟨ga, k, none⟩ (.slice (some ⟨W + 1 + 1, 0, none⟩) j j))
          have HRW : Hid (∀ g cs, Row w g 30 cs → Row (((wr.setCell ⟨gb, k, none⟩ (.bool true)).setCell ⟨ga, k, none⟩ (.slice (some ⟨W + 1 + 1, 0, none⟩) j j)).setRow (W + 1) (c3 (.slice (some ⟨ga, 0, none⟩) n qa) (.slice (some ⟨gb, 0, none⟩) n qb) (.slice pc nr qc))) g 30 cs) := fun g cs hr => by
            have hgl : g < W := by have := hr.lt; omega
            have r1 := Row.below' hr hB.out hgl
            have r2 := Row.other r1 ⟨gb, k, none⟩ (Ne.symm (OwnH.liveNe hO.out r1)) (.bool true)
            exact Row.putOther (Row.other r2 ⟨ga, k, none⟩ (Ne.symm (hap _ _ r2)) _) _ (by omega)
          have HO3 : Hid (put1 h k j = ⟨h.f.set k row, h.l.set k true, h.r⟩) := by unfold Hid put1; rw [HROW.out]
          have e0 := P2.c0
          clear oL cL P2 R2 U2 B2 oN hap sz2
          go_wp2_with (first
            | (refine wl_loadH rfl _ rfl W _ _ _ P3.out rfl ?_)
            | (refine wl_storeH rfl _ _ rfl (W + 1) (.slice (some ⟨ga, 0, none⟩) n qa) (.slice (some ⟨gb, 0, none⟩) n qb) (.slice pc nr qc) _ _ _ R3.out rfl rfl rfl rfl rfl ?_))
          refine bodyPost_ret (res_row_slot Try.results129 (Row.put R3.out (c3 (.slice (some ⟨ga, 0, none⟩) n qa) (.slice (some ⟨gb, 0, none⟩) n qb) (.slice pc nr qc))) rfl rfl Try.underlying30 rfl info_heap) rfl ⟨_, _, _, rfl' HE.out, ?_, below_setRow B3.out (by have := HL.out; have := HS.out; omega) _, HRW.out⟩
          rw [HE.out, HO3.out]
          exact (O3.out.wholeRow R3.out _).wide (Nat.le_refl _) (by rw [size_setRow, sz3.out]; exact Nat.le_refl _)
        · have HA : Hid (∀ i, i < k + 1 → h.l.getD i false = true) := fun i hi => by
            by_cases e : i = k
            · subst e; exact HX.out
            · exact hall.out i (by omega)
          clear oL cL
          go_wp2_with fail
          go_round
          case rel => exact ⟨k + 1, by omega, by go_num, HA⟩
          case measure => simp [intOf]; omega
      · have hpn := HQ.out (fun i hi => hall.out i (by rw [HNL.out] at hi; omega))
        have HE0 : Hid (newS h j = if n = 12 then (h, -1) else (⟨h.f ++ [row], h.l ++ [true], h.r⟩, (n : Int))) := by unfold Hid; rw [HNS.out, hpn, HNL.out, if_neg (Nat.lt_irrefl _)]
        clear hpn
        by_cases h12 : n = 12
        · have HE : Hid (newS h j = (h, -1)) := by unfold Hid; rw [HE0.out, if_pos h12]
          have hq : ((n : Int) == 12) = true := by simp; omega
          have HRW : Hid (∀ g cs, Row w g 30 cs → Row (wr.setRow (W + 1) (c3 (.slice pa n qa) (.slice pb n qb) (.slice pc nr qc))) g 30 cs) := fun g cs hr => by
            have hgl : g < W := by have := hr.lt; omega
            exact Row.putOther (Row.below' hr hB.out hgl) _ (by omega)
          clear h12
          go_wp2_with (first
            | (refine wl_loadH rfl _ rfl W _ _ _ hP.out rfl ?_)
            | (refine wl_storeH rfl _ _ rfl (W + 1) (.slice pa n qa) (.slice pb n qb) (.slice pc nr qc) _ _ _ hR.out rfl rfl rfl rfl rfl ?_))
          refine bodyPost_ret (res_row_slot Try.results129 (Row.put hR.out (c3 (.slice pa n qa) (.slice pb n qb) (.slice pc nr qc))) rfl rfl Try.underlying30 rfl info_heap) rfl ⟨_, _, _, rfl' HE.out, ?_, below_setRow (hB.out.mono (show lo ≤ W by have := HL.out; have := HS.out; omega)) (by have := HL.out; have := HS.out; omega) _, HRW.out⟩
          rw [HE.out]
          exact (hO.out.wholeRow hR.out _).wide (Nat.le_refl _) (by rw [size_setRow]; have := HS.out; have := hUl.out; omega)
        · have HE : Hid (newS h j = (⟨h.f ++ [row], h.l ++ [true], h.r⟩, (n : Int))) := by unfold Hid; rw [HE0.out, if_neg h12]
          have hq : ((n : Int) == 12) = false := by simp; omega
          have hloW : lo ≤ W := by have := HL.out; have := HS.out; omega
          have hWr := hUl.out
          have X0 : OwnX wr lo wr.heap.size (.slice pa n qa) (.slice pb n qb) (.slice pc nr qc) (.slice (some ⟨W + 1 + 1, 0, none⟩) j j) h row := OwnX.of hO.out (hU.out.mono hloW) (fun g e => by have e' : some (W + 1 + 1) = some g := e; cases e'; have := HS.out; omega) (by have := HS.out; omega)
          have BL := hB.out.mono hloW
          obtain ⟨v1, w1e, hr1, x1, rows1, bel1, sz1, _⟩ := X0.live (by omega) (Nat.le_refl _) (by rw [HNL.out]; omega) true 23
          have V1 : RowH _ _ _ _ _ := rows1 _ _ hP.out
          have R1 : RowH _ _ _ _ _ := rows1 _ _ hR.out
          have B1 := bel1 _ _ (Nat.le_refl _) BL
          have s1c := V1.c1
          have s1f := Row.frozen V1 1
          have x2 := x1.cellRow V1 1 v1
          have V2 := RowH.set1 V1 v1
          have R2 : RowH (w1e.setCell ⟨W, 1, none⟩ v1) (W + 1) (.slice none 0 0) (.slice none 0 0) (.slice none 0 0) := Row.other R1 ⟨W, 1, none⟩ (by simp) v1
          have B2 := B1.setCell (p := ⟨W, 1, none⟩) hloW v1
          have hsz2 := World.size_setCell w1e ⟨W, 1, none⟩ v1
          obtain ⟨v2, w2e, hr2, o3, rows3, bel3, sz3⟩ := x2.rows (by omega) (by rw [hsz2]; exact Nat.le_refl _) (by simp only; rw [HNF.out]; omega) rfl 22
          rw [hsz2] at hr2 sz3
          have V3 : RowH _ _ _ _ _ := rows3 _ _ V2
          have R3 : RowH _ _ _ _ _ := rows3 _ _ R2
          have B3 := bel3 _ _ (Nat.le_refl _) B2
          have s2a := V2.c0
          have s3c := V3.c0
          have s3f := Row.frozen V3 0
          have O4 := o3.cellRow V3 0 v2
          have V4 := RowH.set0 V3 v2
          have R4 : RowH (w2e.setCell ⟨W, 0, none⟩ v2) (W + 1) (.slice none 0 0) (.slice none 0 0) (.slice none 0 0) := Row.other R3 ⟨W, 0, none⟩ (by simp) v2
          have B4 := B3.setCell (p := ⟨W, 0, none⟩) hloW v2
          have hfl2 : (h.f ++ [row]).length = n + 1 := by simp [HNF.out]
          obtain ⟨⟨pa2, qa2, hv2⟩, ⟨pb2, qb2, hv1⟩, _⟩ := O4.shapes
          simp only [hfl2] at hv2
          subst hv2
          generalize hnb : (⟨h.f ++ [row], h.l ++ [true], h.r⟩ : H).l.length = nb2 at *
          subst hv1
          have HRW : Hid (∀ g cs, Row w g 30 cs → g ≠ W → Row (w2e.setCell ⟨W, 0, none⟩ (.slice pa2 (n + 1) qa2)) g 30 cs) := fun g cs hr hgw => by
            have hgl : g < W := by have := hr.lt; omega
            have r1 := rows1 _ _ (Row.below' hr hB.out hgl)
            have r2 := Row.other r1 ⟨W, 1, none⟩ (by simpa using hgw) (.slice pb2 nb2 qb2)
            exact Row.other (rows3 _ _ r2) ⟨W, 0, none⟩ (by simpa using hgw) _
          have HRL : Hid (∀ g cs, Row w g 30 cs → g < W) := fun g cs hr => by have := hr.lt; omega
          have OY := Lib.hid O4; have VY := Lib.hid V4; have RY := Lib.hid R4; have BY := Lib.hid B4; have HR1 := Lib.hid hr1; have HR2 := Lib.hid hr2
          have HSY : Hid (w2e.heap.size ≤ (w2e.setCell ⟨W, 0, none⟩ (.slice pa2 (n + 1) qa2)).heap.size) := by unfold Hid; rw [World.size_setCell]; exact Nat.le_refl _
          have hwr2 : IntKind.i64.wrap (n : Int) = (n : Int) := IntWalk.i64_in _ (by omega)
          have hwr1 : IntKind.i64.wrap (((n + 1 : Nat) : Int) - 1) = (n : Int) := by rw [IntWalk.i64_in _ (by omega)]; omega
          clear O4 V4 R4 B4 V1 R1 B1 V2 R2 B2 V3 R3 B3 rows1 rows3 bel1 bel3 hr1 hr2 hsz2 sz1 sz3 x1 x2 X0 BL o3 hfl2 hnb h12
          go_wp2_with (first
            | (at_builtin; refine wl_appRun rfl _ _ 23 rfl rfl rfl HR1.out ?_)
            | (at_builtin; refine wl_appRun rfl _ _ 22 rfl rfl rfl HR2.out ?_))
          generalize (w2e.setCell ⟨W, 0, none⟩ (.slice pa2 (n + 1) qa2)) = wY at *
          have VD : Hid (RowH wY.drew W (.slice pa2 (n + 1) qa2) (.slice pb2 nb2 qb2) (.slice pc nr qc)) := VY.out
          have RD : Hid (RowH wY.drew (W + 1) (.slice none 0 0) (.slice none 0 0) (.slice none 0 0)) := RY.out
          have BD := Lib.hid (below_drew BY.out)
          have OD := Lib.hid (OY.out.below (below_drew (Below.refl wY.heap.size wY)))
          have HRD : Hid (∀ g cs, Row w g 30 cs → g ≠ W → Row wY.drew g 30 cs) := HRW.out
          have HSZ : Hid (w2e.heap.size ≤ wY.drew.heap.size) := HSY
          have y0 := VD.out.c0
          have y1 := VD.out.c1
          have y2 := VD.out.c2
          refine wp_region_held_drew (S := (fun w' => w'.cell? ⟨W, 0, none⟩ = some (.slice pa2 (n + 1) qa2) ∧ w'.cell? ⟨W, 1, none⟩ = some (.slice pb2 nb2 qb2) ∧ w'.cell? ⟨W, 2, none⟩ = some (.slice pc nr qc))) (by kernel_rfl) (⟨y0, y1, y2⟩) (fun hHeld => ?_)
          refine wpAnyH_take (i := 0) (v := ?va0x1) rfl (by kernel_rfl) (by kernel_rfl) (by kernel_rfl) (fun _ _ _ h => h) (Or.inl ⟨by rfl, ?hy0x1⟩) (by assumption) ?rest0x1
          case hy0x1 => (intro w hSw; (try dsimp only at hSw); go_simp; try with_reducible rfl)
          (try simp only [Act.put, List.getElem_toArray, List.getElem_cons_zero, List.setIfInBounds_toArray, List.set_cons_zero, List.set_cons_succ])
          refine wpAnyH_take (i := 1) (v := ?va1x2) rfl (by kernel_rfl) (by kernel_rfl) (by kernel_rfl) (fun _ _ _ h => h) (Or.inl ⟨by rfl, ?hy1x2⟩) (by assumption) ?rest1x2
          case hy1x2 => (intro w hSw; (try dsimp only at hSw); go_simp; try with_reducible rfl)
          (try simp only [Act.put, List.getElem_toArray, List.getElem_cons_zero, List.getElem_cons_succ, List.setIfInBounds_toArray, List.set_cons_zero, List.set_cons_succ])
          refine wpAnyH_take (i := 2) (v := ?va2x3) rfl (by kernel_rfl) (by kernel_rfl) (by kernel_rfl) (fun _ _ _ h => h) (Or.inl ⟨by rfl, ?hy2x3⟩) (by assumption) ?rest2x3
          case hy2x3 => (intro w hSw; (try dsimp only at hSw); go_simp; try with_reducible rfl)
          (try simp only [Act.put, List.getElem_toArray, List.getElem_cons_zero, List.getElem_cons_succ, List.setIfInBounds_toArray, List.set_cons_zero, List.set_cons_succ])
          refine wpAnyH_take (i := 3) (v := ?va3x4) rfl (by kernel_rfl) (by kernel_rfl) (by kernel_rfl) (fun _ _ _ h => h) (Or.inl ⟨by rfl, ?hy3x4⟩) (by assumption) ?rest3x4
          case hy3x4 => (intro w hSw; (try dsimp only at hSw); go_simp; try with_reducible rfl)
          (try simp only [Act.put, List.getElem_toArray, List.getElem_cons_zero, List.getElem_cons_succ, List.setIfInBounds_toArray, List.set_cons_zero, List.set_cons_succ])
          refine wpAnyH_take (i := 4) (v := ?va4x5) rfl (by kernel_rfl) (by kernel_rfl) (by kernel_rfl) (fun _ _ _ h => h) (Or.inl ⟨by rfl, ?hy4x5⟩) (by assumption) ?rest4x5
          case hy4x5 => (intro w hSw; (try dsimp only at hSw); go_simp; try with_reducible rfl)
          (try simp only [Act.put, List.getElem_toArray, List.getElem_cons_zero, List.getElem_cons_succ, List.setIfInBounds_toArray, List.set_cons_zero, List.set_cons_succ])
          have hch := chgRow wY.drew (W + 1) (c3 (.slice pa2 (n + 1) qa2) (.slice pb2 nb2 qb2) (.slice pc nr qc))
          have VN := Lib.hid (show RowH _ _ _ _ _ from Row.chg VD.out hch (.inl (by omega)))
          clear hch
          refine wpAnyH_ready (rs := [5]) (by kernel_rfl) (by simp) ?_
          refine AllReadyH.cons rfl (fun K hK => ?_) AllReadyH.nil
          refine wp_store_row 30 _ _ rfl (W + 1) (c3 (.slice pa2 (n + 1) qa2) (.slice pb2 nb2 qb2) (.slice pc nr qc)) rfl rfl 30 _ RD.out info_heap rfl (by simp [Value.oneCell']) ?_
          refine hK.out _ _ ⟨VN.out.c0, VN.out.c1, VN.out.c2⟩ (fun hHeld => ?_)
          clear hK K
          (try simp only [Act.put, List.getElem_toArray, List.getElem_cons_zero, List.getElem_cons_succ])
          refine wpAnyH_take (i := 6) (v := ?va6x6) rfl (by kernel_rfl) (by kernel_rfl) (by kernel_rfl) (fun _ _ _ h => h) (Or.inl ⟨by rfl, ?hy6x6⟩) (by assumption) ?rest6x6
          case hy6x6 => (intro w hSw; (try dsimp only at hSw); go_simp; try with_reducible rfl)
          (try simp only [Act.put, List.getElem_toArray, List.getElem_cons_zero, List.getElem_cons_succ, List.setIfInBounds_toArray, List.set_cons_zero, List.set_cons_succ])
          refine wpAnyH_done (by kernel_rfl) ?_ _
          clear hHeld y0 y1 y2
          generalize wY.drew = wZ at *
          go_wp2_with fail
          refine bodyPost_ret (res_row_slot Try.results129 (Row.put RD.out (c3 (.slice pa2 (n + 1) qa2) (.slice pb2 nb2 qb2) (.slice pc nr qc))) rfl rfl Try.underlying30 rfl info_heap) rfl ⟨_, _, _, rfl' HE.out, ?_, below_setRow BD.out (by omega) _, fun g cs hr => ?_⟩
          · rw [HE.out]
            exact (OD.out.wholeRow RD.out _).wide (Nat.le_refl _) (by rw [size_setRow]; exact HSZ.out)
          · have := HRL.out g cs hr
            exact Row.putOther (HRD.out g cs hr (by omega)) _ (by omega)
end Go.Proofs.Ytkkigoamphkalaa
namespace Go.Proofs.Ytkkigoamphkalaa
open Go.RowKit Ph

def Sml (h : H) : Prop := h.l.length ≤ 12 ∧ h.r.length ≤ 4 ∧ h.f.length ≤ 12 ∧ ∀ i, i < h.f.length → (h.f.getD i []).length ≤ 3
set_option maxRecDepth 100000 in
set_option maxHeartbeats 6400000 in
theorem s_l5OwnS (a b c : Value) (h : H) (w : World) (hA : HeapAt w a b c h) (hG : Sml h) : Calls Try.prog 92 #[hv a b c] w fun e w' => ∃ a' b' c', e = .returned (hv a' b' c') ∧ OwnH w' w.heap.size w'.heap.size a' b' c' h ∧ Below w.heap.size w w' := by
  obtain ⟨hl12, hr4, hf12, hr3⟩ := hG
  obtain ⟨fa, fc, rfl⟩ := hA.f.shape
  obtain ⟨la, lc, rfl⟩ := hA.l.shape
  obtain ⟨ra, rc, rfl⟩ := hA.r.shape
  have HFA := Lib.hid hA.f; have HLA := Lib.hid hA.l; have HRA := Lib.hid hA.r
  have HLN : Hid (h.l.length ≤ 12 ∧ h.r.length ≤ 4 ∧ h.f.length ≤ 12) := ⟨hl12, hr4, hf12⟩
  have HR3 := Lib.hid hr3
  have hb0 := (below1 w (.cells (c3 (.slice fa h.f.length fc) (.slice la h.l.length lc) (.slice ra h.r.length rc)) 30)).alloc (by simp) (.cells (c3 (.slice none 0 0) (.slice none 0 0) (.slice none 0 0)) 30)
  have s0 := Lib.hid (OwnSt.mk (w := w) (OwnH.nil _ _ _) (show RowH _ w.heap.size (.slice fa h.f.length fc) (.slice la h.l.length lc) (.slice ra h.r.length rc) from (Row.new w 30 (c3 (.slice fa h.f.length fc) (.slice la h.l.length lc) (.slice ra h.r.length rc))).alloc (.cells (c3 (.slice none 0 0) (.slice none 0 0) (.slice none 0 0)) 30)) (show RowH _ (w.heap.size + 1) (.slice none 0 0) (.slice none 0 0) (.slice none 0 0) from Row.new1 w (.cells (c3 (.slice fa h.f.length fc) (.slice la h.l.length lc) (.slice ra h.r.length rc)) 30) 30 (c3 (.slice none 0 0) (.slice none 0 0) (.slice none 0 0))) hb0 (by simp))
  clear hA hr3 hb0 hl12 hr4 hf12
  go_enter Try.func92, Try.ntmps92
  go_wp2_with fail
  replace s0 : Hid (OwnSt w ((w.alloc (.cells (c3 (.slice fa h.f.length fc) (.slice la h.l.length lc) (.slice ra h.r.length rc)) 30)).alloc (.cells (c3 (.slice none 0 0) (.slice none 0 0) (.slice none 0 0)) 30)).drew (.slice fa h.f.length fc) (.slice la h.l.length lc) (.slice ra h.r.length rc) (.slice none 0 0) (.slice none 0 0) [] []) := ⟨s0.out.ow.below (below_drew (Below.refl _ _)), s0.out.rp, s0.out.r2, below_drew s0.out.l, s0.out.sz⟩
  go_cut [3] from 6 (fun p wc => ∃ (gC : Nat) (pb : Option Addr) (qb : Nat) (pc : Option Addr) (qc : Nat), p = .pointer (some ⟨gC, 0, none⟩) ∧ Hid (RowH wc gC (.slice none 0 0) (.slice pb h.l.length qb) (.slice pc h.r.length qc)) ∧ Hid (OwnSt w wc (.slice fa h.f.length fc) (.slice la h.l.length lc) (.slice ra h.r.length rc) (.slice pb h.l.length qb) (.slice pc h.r.length qc) h.l h.r) ∧ Hid (w.heap.size + 2 ≤ gC))
  case first =>
    refine wp_region_held_drew (S := (fun w' => w'.cell? ⟨w.heap.size, 1, none⟩ = some (.slice la h.l.length lc) ∧ w'.cell? ⟨w.heap.size, 2, none⟩ = some (.slice ra h.r.length rc))) (by kernel_rfl) (⟨s0.out.rp.c1, s0.out.rp.c2⟩) (fun hHeld => ?_)
    refine wpAnyH_take (i := 1) (v := ?va1x1) rfl (by kernel_rfl) (by kernel_rfl) (by kernel_rfl) (fun _ _ _ h => h) (Or.inl ⟨by rfl, ?hy1x1⟩) (by assumption) ?rest1x1
    case hy1x1 => (intro w hSw; (try dsimp only at hSw); go_simp; try with_reducible rfl)
    (try simp only [Act.put, List.getElem_toArray, List.getElem_cons_zero, List.getElem_cons_succ, List.setIfInBounds_toArray, List.set_cons_zero, List.set_cons_succ])
    refine wpAnyH_take (i := 2) (v := ?va2x2) rfl (by kernel_rfl) (by kernel_rfl) (by kernel_rfl) (fun _ _ _ h => h) (Or.inl ⟨by rfl, ?hy2x2⟩) (by assumption) ?rest2x2
    case hy2x2 => (intro w hSw; (try dsimp only at hSw); go_simp; try with_reducible rfl)
    (try simp only [Act.put, List.getElem_toArray, List.getElem_cons_zero, List.getElem_cons_succ, List.setIfInBounds_toArray, List.set_cons_zero, List.set_cons_succ])
    refine wpAnyH_take (i := 5) (v := ?va5x3) rfl (by kernel_rfl) (by kernel_rfl) (by kernel_rfl) (fun _ _ _ h => h) (Or.inl ⟨by rfl, ?hy5x3⟩) (by assumption) ?rest5x3
    case hy5x3 => (intro w hSw; (try dsimp only at hSw); go_simp; try with_reducible rfl)
    (try simp only [Act.put, List.getElem_toArray, List.getElem_cons_zero, List.getElem_cons_succ, List.setIfInBounds_toArray, List.set_cons_zero, List.set_cons_succ])
    refine wpAnyH_take (i := 6) (v := ?va6x4) rfl (by kernel_rfl) (by kernel_rfl) (by kernel_rfl) (fun _ _ _ h => h) (Or.inl ⟨by rfl, ?hy6x4⟩) (by assumption) ?rest6x4
    case hy6x4 => (intro w hSw; (try dsimp only at hSw); go_simp; try with_reducible rfl)
    (try simp only [Act.put, List.getElem_toArray, List.getElem_cons_zero, List.getElem_cons_succ, List.setIfInBounds_toArray, List.set_cons_zero, List.set_cons_succ])
    generalize ((w.alloc (.cells (c3 (.slice fa h.f.length fc) (.slice la h.l.length lc) (.slice ra h.r.length rc)) 30)).alloc (.cells (c3 (.slice none 0 0) (.slice none 0 0) (.slice none 0 0)) 30)).drew = x0 at *
    refine wpAnyH_ready (rs := [0, 4, 9]) (by kernel_rfl) (by simp) ?_
    refine AllReadyH.cons rfl (fun K hK => ?_) (AllReadyH.cons rfl (fun K hK => ?_) (AllReadyH.cons rfl (fun K hK => ?_) AllReadyH.nil))
    · skip
      clear hHeld
      have s1 := Lib.hid (OwnSt.allocB s0.out)
      go_simp
      refine hK.out _ _ ⟨s1.out.rp.c1, s1.out.rp.c2⟩ (fun hHeld => ?_)
      clear hK K
      (try simp only [Act.put, List.getElem_toArray, List.getElem_cons_zero, List.setIfInBounds_toArray, List.set_cons_zero, List.set_cons_succ])
      generalize hv1 : Value.slice (some ⟨x0.heap.size, 0, none⟩) 0 0 = y1 at *
      clear hv1
      generalize x0.alloc (.cells #[] 4) = x1 at *
      refine wpAnyH_ready (rs := [3, 4, 9]) (by kernel_rfl) (by simp) ?_
      refine AllReadyH.cons rfl (fun K hK => ?_) (AllReadyH.cons rfl (fun K hK => ?_) (AllReadyH.cons rfl (fun K hK => ?_) AllReadyH.nil))
      · skip
        clear hHeld
        obtain ⟨y2, x2, hrun2, t2, hrw2⟩ := OwnSt.appB s1.out HLA.out (by have := HLN.out; omega) 23
        have s2 := Lib.hid t2
        clear t2 hrw2
        rw [if_pos (by rfl)]
        refine op_app _ _ _ rfl rfl rfl hrun2 ?_
        refine hK.out _ _ ⟨s2.out.rp.c1, s2.out.rp.c2⟩ (fun hHeld => ?_)
        clear hK K hrun2
        (try simp only [Act.put, List.getElem_toArray, List.getElem_cons_zero, List.getElem_cons_succ, List.setIfInBounds_toArray, List.set_cons_zero, List.set_cons_succ])
        refine wpAnyH_ready (rs := [4, 9]) (by kernel_rfl) (by simp) ?_
        refine AllReadyH.cons rfl (fun K hK => ?_) (AllReadyH.cons rfl (fun K hK => ?_) AllReadyH.nil)
        · skip
          clear hHeld
          have s3 := Lib.hid (OwnSt.allocI s2.out)
          go_simp
          refine hK.out _ _ ⟨s3.out.rp.c1, s3.out.rp.c2⟩ (fun hHeld => ?_)
          clear hK K
          (try simp only [Act.put, List.getElem_toArray, List.getElem_cons_zero, List.getElem_cons_succ, List.setIfInBounds_toArray, List.set_cons_zero, List.set_cons_succ])
          generalize hv3 : Value.slice (some ⟨x2.heap.size, 0, none⟩) 0 0 = y3 at *
          clear hv3
          generalize x2.alloc (.cells #[] 3) = x3 at *
          refine wpAnyH_ready (rs := [7, 9]) (by kernel_rfl) (by simp) ?_
          refine AllReadyH.cons rfl (fun K hK => ?_) (AllReadyH.cons rfl (fun K hK => ?_) AllReadyH.nil)
          · skip
            clear hHeld
            obtain ⟨y4, x4, hrun4, t4, hrw4⟩ := OwnSt.appI s3.out HRA.out (by have := HLN.out; omega) 24
            have s4 := Lib.hid t4
            clear t4 hrw4
            rw [if_pos (by rfl)]
            refine op_app _ _ _ rfl rfl rfl hrun4 ?_
            refine hK.out _ _ ⟨s4.out.rp.c1, s4.out.rp.c2⟩ (fun hHeld => ?_)
            clear hK K hrun4
            (try simp only [Act.put, List.getElem_toArray, List.getElem_cons_zero, List.getElem_cons_succ, List.setIfInBounds_toArray, List.set_cons_zero, List.set_cons_succ])
            obtain ⟨_, ⟨pb, qb, hpb⟩, ⟨pc, qc, hpc⟩⟩ := s4.out.ow.shapes
            simp only [] at hpb hpc
            subst hpb
            subst hpc
            refine wpAnyH_take (i := 8) (v := ?va8x5) rfl (by kernel_rfl) (by kernel_rfl) (by kernel_rfl) (fun _ _ _ h => h) (Or.inl ⟨by rfl, ?hy8x5⟩) (by assumption) ?rest8x5
            case hy8x5 => (intro w hSw; (try dsimp only at hSw); go_simp; try with_reducible rfl)
            (try simp only [Act.put, List.getElem_toArray, List.getElem_cons_zero, List.getElem_cons_succ, List.setIfInBounds_toArray, List.set_cons_zero, List.set_cons_succ])
            refine wpAnyH_ready (rs := [9]) (by kernel_rfl) (by simp) ?_
            refine AllReadyH.cons rfl (fun K hK => ?_) AllReadyH.nil
            clear hHeld
            have s5 := Lib.hid (OwnSt.allocC s4.out)
            have hc5 := Lib.hid (show RowH (x4.alloc (.cells (c3 (.slice none 0 0) (.slice none 0 0) (.slice none 0 0)) 30)) x4.heap.size (.slice none 0 0) (.slice none 0 0) (.slice none 0 0) from Row.new x4 _ _)
            go_simp
            refine hK.out _ _ ⟨s5.out.rp.c1, s5.out.rp.c2⟩ (fun hHeld => ?_)
            clear hK K
            (try simp only [Act.put, List.getElem_toArray, List.getElem_cons_zero, List.getElem_cons_succ, List.setIfInBounds_toArray, List.set_cons_zero, List.set_cons_succ])
            have hd5 : Hid (w.heap.size + 2 ≤ x4.heap.size) := s4.out.sz
            generalize x4.heap.size = g5 at *
            generalize x4.alloc (.cells (c3 (.slice none 0 0) (.slice none 0 0) (.slice none 0 0)) 30) = x5 at *
            have z0 := hc5.out.c0
            have z1 := hc5.out.c1
            have z2 := hc5.out.c2
            have f0 := Row.frozen hc5.out 0
            have f1 := Row.frozen hc5.out 1
            have f2 := Row.frozen hc5.out 2
            have hne : w.heap.size ≠ g5 := by have := hd5.out; omega
            have hne1 : w.heap.size + 1 ≠ g5 := by have := hd5.out; omega
            have HST : Hid (OwnSt w (((x5.setCell ⟨g5, 0, none⟩ (.slice none 0 0)).setCell ⟨g5, 1, none⟩ (.slice pb h.l.length qb)).setCell ⟨g5, 2, none⟩ (.slice pc h.r.length qc)) (.slice fa h.f.length fc) (.slice la h.l.length lc) (.slice ra h.r.length rc) (.slice pb h.l.length qb) (.slice pc h.r.length qc) h.l h.r) := own_store s5.out hc5.out hd5.out _ _ _
            have HRC := Lib.hid (hc5.out.set3 (.slice none 0 0) (.slice pb h.l.length qb) (.slice pc h.r.length qc))
            clear hHeld
            refine wpAnyH_ready (rs := [10]) (by kernel_rfl) (by simp) ?_
            refine AllReadyH.cons rfl (fun K hK => ?_) AllReadyH.nil
            go_simp
            refine hK.out _ _ ⟨HST.out.rp.c1, HST.out.rp.c2⟩ (fun hHeld => ?_)
            clear hK K z0 z1 z2 f0 f1 f2
            (try simp only [Act.put, List.getElem_toArray, List.getElem_cons_zero, List.getElem_cons_succ, List.setIfInBounds_toArray, List.set_cons_zero, List.set_cons_succ])
            refine wpAnyH_done (by kernel_rfl) ?_ _
            go_wp2_with fail
            go_meet
            case rel => exact ⟨g5, pb, qb, pc, qc, rfl, HRC, HST, hd5⟩
          · skip
            clear hHeld
            have s6 := Lib.hid (OwnSt.allocC s3.out)
            have hc6 := Lib.hid (show RowH (x3.alloc (.cells (c3 (.slice none 0 0) (.slice none 0 0) (.slice none 0 0)) 30)) x3.heap.size (.slice none 0 0) (.slice none 0 0) (.slice none 0 0) from Row.new x3 _ _)
            go_simp
            refine hK.out _ _ ⟨s6.out.rp.c1, s6.out.rp.c2⟩ (fun hHeld => ?_)
            clear hK K
            (try simp only [Act.put, List.getElem_toArray, List.getElem_cons_zero, List.getElem_cons_succ, List.setIfInBounds_toArray, List.set_cons_zero, List.set_cons_succ])
            have hd6 : Hid (w.heap.size + 2 ≤ x3.heap.size) := s3.out.sz
            generalize x3.heap.size = g6 at *
            generalize x3.alloc (.cells (c3 (.slice none 0 0) (.slice none 0 0) (.slice none 0 0)) 30) = x6 at *
            refine wpAnyH_ready (rs := [7]) (by kernel_rfl) (by simp) ?_
            refine AllReadyH.cons rfl (fun K hK => ?_) AllReadyH.nil
            clear hHeld
            obtain ⟨y7, x7, hrun7, t7, hrw7⟩ := OwnSt.appI s6.out HRA.out (by have := HLN.out; omega) 24
            have hc7 := Lib.hid (hrw7 _ _ _ _ hc6.out)
            have s7 := Lib.hid t7
            clear t7 hrw7
            rw [if_pos (by rfl)]
            refine op_app _ _ _ rfl rfl rfl hrun7 ?_
            refine hK.out _ _ ⟨s7.out.rp.c1, s7.out.rp.c2⟩ (fun hHeld => ?_)
            clear hK K hrun7
            (try simp only [Act.put, List.getElem_toArray, List.getElem_cons_zero, List.getElem_cons_succ, List.setIfInBounds_toArray, List.set_cons_zero, List.set_cons_succ])
            obtain ⟨_, ⟨pb, qb, hpb⟩, ⟨pc, qc, hpc⟩⟩ := s7.out.ow.shapes
            simp only [] at hpb hpc
            subst hpb
            subst hpc
            refine wpAnyH_take (i := 8) (v := ?va8x6) rfl (by kernel_rfl) (by kernel_rfl) (by kernel_rfl) (fun _ _ _ h => h) (Or.inl ⟨by rfl, ?hy8x6⟩) (by assumption) ?rest8x6
            case hy8x6 => (intro w hSw; (try dsimp only at hSw); go_simp; try with_reducible rfl)
            (try simp only [Act.put, List.getElem_toArray, List.getElem_cons_zero, List.getElem_cons_succ, List.setIfInBounds_toArray, List.set_cons_zero, List.set_cons_succ])
            have z0 := hc7.out.c0
            have z1 := hc7.out.c1
            have z2 := hc7.out.c2
            have f0 := Row.frozen hc7.out 0
            have f1 := Row.frozen hc7.out 1
            have f2 := Row.frozen hc7.out 2
            have hne : w.heap.size ≠ g6 := by have := hd6.out; omega
            have hne1 : w.heap.size + 1 ≠ g6 := by have := hd6.out; omega
            have HST : Hid (OwnSt w (((x7.setCell ⟨g6, 0, none⟩ (.slice none 0 0)).setCell ⟨g6, 1, none⟩ (.slice pb h.l.length qb)).setCell ⟨g6, 2, none⟩ (.slice pc h.r.length qc)) (.slice fa h.f.length fc) (.slice la h.l.length lc) (.slice ra h.r.length rc) (.slice pb h.l.length qb) (.slice pc h.r.length qc) h.l h.r) := own_store s7.out hc7.out hd6.out _ _ _
            have HRC := Lib.hid (hc7.out.set3 (.slice none 0 0) (.slice pb h.l.length qb) (.slice pc h.r.length qc))
            clear hHeld
            refine wpAnyH_ready (rs := [10]) (by kernel_rfl) (by simp) ?_
            refine AllReadyH.cons rfl (fun K hK => ?_) AllReadyH.nil
            go_simp
            refine hK.out _ _ ⟨HST.out.rp.c1, HST.out.rp.c2⟩ (fun hHeld => ?_)
            clear hK K z0 z1 z2 f0 f1 f2
            (try simp only [Act.put, List.getElem_toArray, List.getElem_cons_zero, List.getElem_cons_succ, List.setIfInBounds_toArray, List.set_cons_zero, List.set_cons_succ])
            refine wpAnyH_done (by kernel_rfl) ?_ _
            go_wp2_with fail
            go_meet
            case rel => exact ⟨g6, pb, qb, pc, qc, rfl, HRC, HST, hd6⟩
        · skip
          clear hHeld
          have s8 := Lib.hid (OwnSt.allocC s2.out)
          have hc8 := Lib.hid (show RowH (x2.alloc (.cells (c3 (.slice none 0 0) (.slice none 0 0) (.slice none 0 0)) 30)) x2.heap.size (.slice none 0 0) (.slice none 0 0) (.slice none 0 0) from Row.new x2 _ _)
          go_simp
          refine hK.out _ _ ⟨s8.out.rp.c1, s8.out.rp.c2⟩ (fun hHeld => ?_)
          clear hK K
          (try simp only [Act.put, List.getElem_toArray, List.getElem_cons_zero, List.getElem_cons_succ, List.setIfInBounds_toArray, List.set_cons_zero, List.set_cons_succ])
          have hd8 : Hid (w.heap.size + 2 ≤ x2.heap.size) := s2.out.sz
          generalize x2.heap.size = g8 at *
          generalize x2.alloc (.cells (c3 (.slice none 0 0) (.slice none 0 0) (.slice none 0 0)) 30) = x8 at *
          refine wpAnyH_ready (rs := [4]) (by kernel_rfl) (by simp) ?_
          refine AllReadyH.cons rfl (fun K hK => ?_) AllReadyH.nil
          clear hHeld
          have s9 := Lib.hid (OwnSt.allocI s8.out)
          have hc9 := Lib.hid (show RowH _ _ (.slice none 0 0) (.slice none 0 0) (.slice none 0 0) from Row.alloc hc8.out (.cells #[] 3))
          go_simp
          refine hK.out _ _ ⟨s9.out.rp.c1, s9.out.rp.c2⟩ (fun hHeld => ?_)
          clear hK K
          (try simp only [Act.put, List.getElem_toArray, List.getElem_cons_zero, List.getElem_cons_succ, List.setIfInBounds_toArray, List.set_cons_zero, List.set_cons_succ])
          generalize hv9 : Value.slice (some ⟨x8.heap.size, 0, none⟩) 0 0 = y9 at *
          clear hv9
          generalize x8.alloc (.cells #[] 3) = x9 at *
          refine wpAnyH_ready (rs := [7]) (by kernel_rfl) (by simp) ?_
          refine AllReadyH.cons rfl (fun K hK => ?_) AllReadyH.nil
          clear hHeld
          obtain ⟨y10, x10, hrun10, t10, hrw10⟩ := OwnSt.appI s9.out HRA.out (by have := HLN.out; omega) 24
          have hc10 := Lib.hid (hrw10 _ _ _ _ hc9.out)
          have s10 := Lib.hid t10
          clear t10 hrw10
          rw [if_pos (by rfl)]
          refine op_app _ _ _ rfl rfl rfl hrun10 ?_
          refine hK.out _ _ ⟨s10.out.rp.c1, s10.out.rp.c2⟩ (fun hHeld => ?_)
          clear hK K hrun10
          (try simp only [Act.put, List.getElem_toArray, List.getElem_cons_zero, List.getElem_cons_succ, List.setIfInBounds_toArray, List.set_cons_zero, List.set_cons_succ])
          obtain ⟨_, ⟨pb, qb, hpb⟩, ⟨pc, qc, hpc⟩⟩ := s10.out.ow.shapes
          simp only [] at hpb hpc
          subst hpb
          subst hpc
          refine wpAnyH_take (i := 8) (v := ?va8x7) rfl (by kernel_rfl) (by kernel_rfl) (by kernel_rfl) (fun _ _ _ h => h) (Or.inl ⟨by rfl, ?hy8x7⟩) (by assumption) ?rest8x7
          case hy8x7 => (intro w hSw; (try dsimp only at hSw); go_simp; try with_reducible rfl)
          (try simp only [Act.put, List.getElem_toArray, List.getElem_cons_zero, List.getElem_cons_succ, List.setIfInBounds_toArray, List.set_cons_zero, List.set_cons_succ])
          have z0 := hc10.out.c0
          have z1 := hc10.out.c1
          have z2 := hc10.out.c2
          have f0 := Row.frozen hc10.out 0
          have f1 := Row.frozen hc10.out 1
          have f2 := Row.frozen hc10.out 2
          have hne : w.heap.size ≠ g8 := by have := hd8.out; omega
          have hne1 : w.heap.size + 1 ≠ g8 := by have := hd8.out; omega
          have HST : Hid (OwnSt w (((x10.setCell ⟨g8, 0, none⟩ (.slice none 0 0)).setCell ⟨g8, 1, none⟩ (.slice pb h.l.length qb)).setCell ⟨g8, 2, none⟩ (.slice pc h.r.length qc)) (.slice fa h.f.length fc) (.slice la h.l.length lc) (.slice ra h.r.length rc) (.slice pb h.l.length qb) (.slice pc h.r.length qc) h.l h.r) := own_store s10.out hc10.out hd8.out _ _ _
          have HRC := Lib.hid (hc10.out.set3 (.slice none 0 0) (.slice pb h.l.length qb) (.slice pc h.r.length qc))
          clear hHeld
          refine wpAnyH_ready (rs := [10]) (by kernel_rfl) (by simp) ?_
          refine AllReadyH.cons rfl (fun K hK => ?_) AllReadyH.nil
          go_simp
          refine hK.out _ _ ⟨HST.out.rp.c1, HST.out.rp.c2⟩ (fun hHeld => ?_)
          clear hK K z0 z1 z2 f0 f1 f2
          (try simp only [Act.put, List.getElem_toArray, List.getElem_cons_zero, List.getElem_cons_succ, List.setIfInBounds_toArray, List.set_cons_zero, List.set_cons_succ])
          refine wpAnyH_done (by kernel_rfl) ?_ _
          go_wp2_with fail
          go_meet
          case rel => exact ⟨g8, pb, qb, pc, qc, rfl, HRC, HST, hd8⟩
      · skip
        clear hHeld
        have s11 := Lib.hid (OwnSt.allocI s1.out)
        go_simp
        refine hK.out _ _ ⟨s11.out.rp.c1, s11.out.rp.c2⟩ (fun hHeld => ?_)
        clear hK K
        (try simp only [Act.put, List.getElem_toArray, List.getElem_cons_zero, List.getElem_cons_succ, List.setIfInBounds_toArray, List.set_cons_zero, List.set_cons_succ])
        generalize hv11 : Value.slice (some ⟨x1.heap.size, 0, none⟩) 0 0 = y11 at *
        clear hv11
        generalize x1.alloc (.cells #[] 3) = x11 at *
        refine wpAnyH_ready (rs := [3, 9]) (by kernel_rfl) (by simp) ?_
        refine AllReadyH.cons rfl (fun K hK => ?_) (AllReadyH.cons rfl (fun K hK => ?_) AllReadyH.nil)
        · skip
          clear hHeld
          obtain ⟨y12, x12, hrun12, t12, hrw12⟩ := OwnSt.appB s11.out HLA.out (by have := HLN.out; omega) 23
          have s12 := Lib.hid t12
          clear t12 hrw12
          rw [if_pos (by rfl)]
          refine op_app _ _ _ rfl rfl rfl hrun12 ?_
          refine hK.out _ _ ⟨s12.out.rp.c1, s12.out.rp.c2⟩ (fun hHeld => ?_)
          clear hK K hrun12
          (try simp only [Act.put, List.getElem_toArray, List.getElem_cons_zero, List.getElem_cons_succ, List.setIfInBounds_toArray, List.set_cons_zero, List.set_cons_succ])
          refine wpAnyH_ready (rs := [7, 9]) (by kernel_rfl) (by simp) ?_
          refine AllReadyH.cons rfl (fun K hK => ?_) (AllReadyH.cons rfl (fun K hK => ?_) AllReadyH.nil)
          · skip
            clear hHeld
            obtain ⟨y13, x13, hrun13, t13, hrw13⟩ := OwnSt.appI s12.out HRA.out (by have := HLN.out; omega) 24
            have s13 := Lib.hid t13
            clear t13 hrw13
            rw [if_pos (by rfl)]
            refine op_app _ _ _ rfl rfl rfl hrun13 ?_
            refine hK.out _ _ ⟨s13.out.rp.c1, s13.out.rp.c2⟩ (fun hHeld => ?_)
            clear hK K hrun13
            (try simp only [Act.put, List.getElem_toArray, List.getElem_cons_zero, List.getElem_cons_succ, List.setIfInBounds_toArray, List.set_cons_zero, List.set_cons_succ])
            obtain ⟨_, ⟨pb, qb, hpb⟩, ⟨pc, qc, hpc⟩⟩ := s13.out.ow.shapes
            simp only [] at hpb hpc
            subst hpb
            subst hpc
            refine wpAnyH_take (i := 8) (v := ?va8x8) rfl (by kernel_rfl) (by kernel_rfl) (by kernel_rfl) (fun _ _ _ h => h) (Or.inl ⟨by rfl, ?hy8x8⟩) (by assumption) ?rest8x8
            case hy8x8 => (intro w hSw; (try dsimp only at hSw); go_simp; try with_reducible rfl)
            (try simp only [Act.put, List.getElem_toArray, List.getElem_cons_zero, List.getElem_cons_succ, List.setIfInBounds_toArray, List.set_cons_zero, List.set_cons_succ])
            refine wpAnyH_ready (rs := [9]) (by kernel_rfl) (by simp) ?_
            refine AllReadyH.cons rfl (fun K hK => ?_) AllReadyH.nil
            clear hHeld
            have s14 := Lib.hid (OwnSt.allocC s13.out)
            have hc14 := Lib.hid (show RowH (x13.alloc (.cells (c3 (.slice none 0 0) (.slice none 0 0) (.slice none 0 0)) 30)) x13.heap.size (.slice none 0 0) (.slice none 0 0) (.slice none 0 0) from Row.new x13 _ _)
            go_simp
            refine hK.out _ _ ⟨s14.out.rp.c1, s14.out.rp.c2⟩ (fun hHeld => ?_)
            clear hK K
            (try simp only [Act.put, List.getElem_toArray, List.getElem_cons_zero, List.getElem_cons_succ, List.setIfInBounds_toArray, List.set_cons_zero, List.set_cons_succ])
            have hd14 : Hid (w.heap.size + 2 ≤ x13.heap.size) := s13.out.sz
            generalize x13.heap.size = g14 at *
            generalize x13.alloc (.cells (c3 (.slice none 0 0) (.slice none 0 0) (.slice none 0 0)) 30) = x14 at *
            have z0 := hc14.out.c0
            have z1 := hc14.out.c1
            have z2 := hc14.out.c2
            have f0 := Row.frozen hc14.out 0
            have f1 := Row.frozen hc14.out 1
            have f2 := Row.frozen hc14.out 2
            have hne : w.heap.size ≠ g14 := by have := hd14.out; omega
            have hne1 : w.heap.size + 1 ≠ g14 := by have := hd14.out; omega
            have HST : Hid (OwnSt w (((x14.setCell ⟨g14, 0, none⟩ (.slice none 0 0)).setCell ⟨g14, 1, none⟩ (.slice pb h.l.length qb)).setCell ⟨g14, 2, none⟩ (.slice pc h.r.length qc)) (.slice fa h.f.length fc) (.slice la h.l.length lc) (.slice ra h.r.length rc) (.slice pb h.l.length qb) (.slice pc h.r.length qc) h.l h.r) := own_store s14.out hc14.out hd14.out _ _ _
            have HRC := Lib.hid (hc14.out.set3 (.slice none 0 0) (.slice pb h.l.length qb) (.slice pc h.r.length qc))
            clear hHeld
            refine wpAnyH_ready (rs := [10]) (by kernel_rfl) (by simp) ?_
            refine AllReadyH.cons rfl (fun K hK => ?_) AllReadyH.nil
            go_simp
            refine hK.out _ _ ⟨HST.out.rp.c1, HST.out.rp.c2⟩ (fun hHeld => ?_)
            clear hK K z0 z1 z2 f0 f1 f2
            (try simp only [Act.put, List.getElem_toArray, List.getElem_cons_zero, List.getElem_cons_succ, List.setIfInBounds_toArray, List.set_cons_zero, List.set_cons_succ])
            refine wpAnyH_done (by kernel_rfl) ?_ _
            go_wp2_with fail
            go_meet
            case rel => exact ⟨g14, pb, qb, pc, qc, rfl, HRC, HST, hd14⟩
          · skip
            clear hHeld
            have s15 := Lib.hid (OwnSt.allocC s12.out)
            have hc15 := Lib.hid (show RowH (x12.alloc (.cells (c3 (.slice none 0 0) (.slice none 0 0) (.slice none 0 0)) 30)) x12.heap.size (.slice none 0 0) (.slice none 0 0) (.slice none 0 0) from Row.new x12 _ _)
            go_simp
            refine hK.out _ _ ⟨s15.out.rp.c1, s15.out.rp.c2⟩ (fun hHeld => ?_)
            clear hK K
            (try simp only [Act.put, List.getElem_toArray, List.getElem_cons_zero, List.getElem_cons_succ, List.setIfInBounds_toArray, List.set_cons_zero, List.set_cons_succ])
            have hd15 : Hid (w.heap.size + 2 ≤ x12.heap.size) := s12.out.sz
            generalize x12.heap.size = g15 at *
            generalize x12.alloc (.cells (c3 (.slice none 0 0) (.slice none 0 0) (.slice none 0 0)) 30) = x15 at *
            refine wpAnyH_ready (rs := [7]) (by kernel_rfl) (by simp) ?_
            refine AllReadyH.cons rfl (fun K hK => ?_) AllReadyH.nil
            clear hHeld
            obtain ⟨y16, x16, hrun16, t16, hrw16⟩ := OwnSt.appI s15.out HRA.out (by have := HLN.out; omega) 24
            have hc16 := Lib.hid (hrw16 _ _ _ _ hc15.out)
            have s16 := Lib.hid t16
            clear t16 hrw16
            rw [if_pos (by rfl)]
            refine op_app _ _ _ rfl rfl rfl hrun16 ?_
            refine hK.out _ _ ⟨s16.out.rp.c1, s16.out.rp.c2⟩ (fun hHeld => ?_)
            clear hK K hrun16
            (try simp only [Act.put, List.getElem_toArray, List.getElem_cons_zero, List.getElem_cons_succ, List.setIfInBounds_toArray, List.set_cons_zero, List.set_cons_succ])
            obtain ⟨_, ⟨pb, qb, hpb⟩, ⟨pc, qc, hpc⟩⟩ := s16.out.ow.shapes
            simp only [] at hpb hpc
            subst hpb
            subst hpc
            refine wpAnyH_take (i := 8) (v := ?va8x9) rfl (by kernel_rfl) (by kernel_rfl) (by kernel_rfl) (fun _ _ _ h => h) (Or.inl ⟨by rfl, ?hy8x9⟩) (by assumption) ?rest8x9
            case hy8x9 => (intro w hSw; (try dsimp only at hSw); go_simp; try with_reducible rfl)
            (try simp only [Act.put, List.getElem_toArray, List.getElem_cons_zero, List.getElem_cons_succ, List.setIfInBounds_toArray, List.set_cons_zero, List.set_cons_succ])
            have z0 := hc16.out.c0
            have z1 := hc16.out.c1
            have z2 := hc16.out.c2
            have f0 := Row.frozen hc16.out 0
            have f1 := Row.frozen hc16.out 1
            have f2 := Row.frozen hc16.out 2
            have hne : w.heap.size ≠ g15 := by have := hd15.out; omega
            have hne1 : w.heap.size + 1 ≠ g15 := by have := hd15.out; omega
            have HST : Hid (OwnSt w (((x16.setCell ⟨g15, 0, none⟩ (.slice none 0 0)).setCell ⟨g15, 1, none⟩ (.slice pb h.l.length qb)).setCell ⟨g15, 2, none⟩ (.slice pc h.r.length qc)) (.slice fa h.f.length fc) (.slice la h.l.length lc) (.slice ra h.r.length rc) (.slice pb h.l.length qb) (.slice pc h.r.length qc) h.l h.r) := own_store s16.out hc16.out hd15.out _ _ _
            have HRC := Lib.hid (hc16.out.set3 (.slice none 0 0) (.slice pb h.l.length qb) (.slice pc h.r.length qc))
            clear hHeld
            refine wpAnyH_ready (rs := [10]) (by kernel_rfl) (by simp) ?_
            refine AllReadyH.cons rfl (fun K hK => ?_) AllReadyH.nil
            go_simp
            refine hK.out _ _ ⟨HST.out.rp.c1, HST.out.rp.c2⟩ (fun hHeld => ?_)
            clear hK K z0 z1 z2 f0 f1 f2
            (try simp only [Act.put, List.getElem_toArray, List.getElem_cons_zero, List.getElem_cons_succ, List.setIfInBounds_toArray, List.set_cons_zero, List.set_cons_succ])
            refine wpAnyH_done (by kernel_rfl) ?_ _
            go_wp2_with fail
            go_meet
            case rel => exact ⟨g15, pb, qb, pc, qc, rfl, HRC, HST, hd15⟩
        · skip
          clear hHeld
          have s17 := Lib.hid (OwnSt.allocC s11.out)
          have hc17 := Lib.hid (show RowH (x11.alloc (.cells (c3 (.slice none 0 0) (.slice none 0 0) (.slice none 0 0)) 30)) x11.heap.size (.slice none 0 0) (.slice none 0 0) (.slice none 0 0) from Row.new x11 _ _)
          go_simp
          refine hK.out _ _ ⟨s17.out.rp.c1, s17.out.rp.c2⟩ (fun hHeld => ?_)
          clear hK K
          (try simp only [Act.put, List.getElem_toArray, List.getElem_cons_zero, List.getElem_cons_succ, List.setIfInBounds_toArray, List.set_cons_zero, List.set_cons_succ])
          have hd17 : Hid (w.heap.size + 2 ≤ x11.heap.size) := s11.out.sz
          generalize x11.heap.size = g17 at *
          generalize x11.alloc (.cells (c3 (.slice none 0 0) (.slice none 0 0) (.slice none 0 0)) 30) = x17 at *
          refine wpAnyH_ready (rs := [3]) (by kernel_rfl) (by simp) ?_
          refine AllReadyH.cons rfl (fun K hK => ?_) AllReadyH.nil
          clear hHeld
          obtain ⟨y18, x18, hrun18, t18, hrw18⟩ := OwnSt.appB s17.out HLA.out (by have := HLN.out; omega) 23
          have hc18 := Lib.hid (hrw18 _ _ _ _ hc17.out)
          have s18 := Lib.hid t18
          clear t18 hrw18
          rw [if_pos (by rfl)]
          refine op_app _ _ _ rfl rfl rfl hrun18 ?_
          refine hK.out _ _ ⟨s18.out.rp.c1, s18.out.rp.c2⟩ (fun hHeld => ?_)
          clear hK K hrun18
          (try simp only [Act.put, List.getElem_toArray, List.getElem_cons_zero, List.getElem_cons_succ, List.setIfInBounds_toArray, List.set_cons_zero, List.set_cons_succ])
          refine wpAnyH_ready (rs := [7]) (by kernel_rfl) (by simp) ?_
          refine AllReadyH.cons rfl (fun K hK => ?_) AllReadyH.nil
          clear hHeld
          obtain ⟨y19, x19, hrun19, t19, hrw19⟩ := OwnSt.appI s18.out HRA.out (by have := HLN.out; omega) 24
          have hc19 := Lib.hid (hrw19 _ _ _ _ hc18.out)
          have s19 := Lib.hid t19
          clear t19 hrw19
          rw [if_pos (by rfl)]
          refine op_app _ _ _ rfl rfl rfl hrun19 ?_
          refine hK.out _ _ ⟨s19.out.rp.c1, s19.out.rp.c2⟩ (fun hHeld => ?_)
          clear hK K hrun19
          (try simp only [Act.put, List.getElem_toArray, List.getElem_cons_zero, List.getElem_cons_succ, List.setIfInBounds_toArray, List.set_cons_zero, List.set_cons_succ])
          obtain ⟨_, ⟨pb, qb, hpb⟩, ⟨pc, qc, hpc⟩⟩ := s19.out.ow.shapes
          simp only [] at hpb hpc
          subst hpb
          subst hpc
          refine wpAnyH_take (i := 8) (v := ?va8x10) rfl (by kernel_rfl) (by kernel_rfl) (by kernel_rfl) (fun _ _ _ h => h) (Or.inl ⟨by rfl, ?hy8x10⟩) (by assumption) ?rest8x10
          case hy8x10 => (intro w hSw; (try dsimp only at hSw); go_simp; try with_reducible rfl)
          (try simp only [Act.put, List.getElem_toArray, List.getElem_cons_zero, List.getElem_cons_succ, List.setIfInBounds_toArray, List.set_cons_zero, List.set_cons_succ])
          have z0 := hc19.out.c0
          have z1 := hc19.out.c1
          have z2 := hc19.out.c2
          have f0 := Row.frozen hc19.out 0
          have f1 := Row.frozen hc19.out 1
          have f2 := Row.frozen hc19.out 2
          have hne : w.heap.size ≠ g17 := by have := hd17.out; omega
          have hne1 : w.heap.size + 1 ≠ g17 := by have := hd17.out; omega
          have HST : Hid (OwnSt w (((x19.setCell ⟨g17, 0, none⟩ (.slice none 0 0)).setCell ⟨g17, 1, none⟩ (.slice pb h.l.length qb)).setCell ⟨g17, 2, none⟩ (.slice pc h.r.length qc)) (.slice fa h.f.length fc) (.slice la h.l.length lc) (.slice ra h.r.length rc) (.slice pb h.l.length qb) (.slice pc h.r.length qc) h.l h.r) := own_store s19.out hc19.out hd17.out _ _ _
          have HRC := Lib.hid (hc19.out.set3 (.slice none 0 0) (.slice pb h.l.length qb) (.slice pc h.r.length qc))
          clear hHeld
          refine wpAnyH_ready (rs := [10]) (by kernel_rfl) (by simp) ?_
          refine AllReadyH.cons rfl (fun K hK => ?_) AllReadyH.nil
          go_simp
          refine hK.out _ _ ⟨HST.out.rp.c1, HST.out.rp.c2⟩ (fun hHeld => ?_)
          clear hK K z0 z1 z2 f0 f1 f2
          (try simp only [Act.put, List.getElem_toArray, List.getElem_cons_zero, List.getElem_cons_succ, List.setIfInBounds_toArray, List.set_cons_zero, List.set_cons_succ])
          refine wpAnyH_done (by kernel_rfl) ?_ _
          go_wp2_with fail
          go_meet
          case rel => exact ⟨g17, pb, qb, pc, qc, rfl, HRC, HST, hd17⟩
      · skip
        clear hHeld
        have s20 := Lib.hid (OwnSt.allocC s1.out)
        have hc20 := Lib.hid (show RowH (x1.alloc (.cells (c3 (.slice none 0 0) (.slice none 0 0) (.slice none 0 0)) 30)) x1.heap.size (.slice none 0 0) (.slice none 0 0) (.slice none 0 0) from Row.new x1 _ _)
        go_simp
        refine hK.out _ _ ⟨s20.out.rp.c1, s20.out.rp.c2⟩ (fun hHeld => ?_)
        clear hK K
        (try simp only [Act.put, List.getElem_toArray, List.getElem_cons_zero, List.getElem_cons_succ, List.setIfInBounds_toArray, List.set_cons_zero, List.set_cons_succ])
        have hd20 : Hid (w.heap.size + 2 ≤ x1.heap.size) := s1.out.sz
        generalize x1.heap.size = g20 at *
        generalize x1.alloc (.cells (c3 (.slice none 0 0) (.slice none 0 0) (.slice none 0 0)) 30) = x20 at *
        refine wpAnyH_ready (rs := [3, 4]) (by kernel_rfl) (by simp) ?_
        refine AllReadyH.cons rfl (fun K hK => ?_) (AllReadyH.cons rfl (fun K hK => ?_) AllReadyH.nil)
        · skip
          clear hHeld
          obtain ⟨y21, x21, hrun21, t21, hrw21⟩ := OwnSt.appB s20.out HLA.out (by have := HLN.out; omega) 23
          have hc21 := Lib.hid (hrw21 _ _ _ _ hc20.out)
          have s21 := Lib.hid t21
          clear t21 hrw21
          rw [if_pos (by rfl)]
          refine op_app _ _ _ rfl rfl rfl hrun21 ?_
          refine hK.out _ _ ⟨s21.out.rp.c1, s21.out.rp.c2⟩ (fun hHeld => ?_)
          clear hK K hrun21
          (try simp only [Act.put, List.getElem_toArray, List.getElem_cons_zero, List.getElem_cons_succ, List.setIfInBounds_toArray, List.set_cons_zero, List.set_cons_succ])
          refine wpAnyH_ready (rs := [4]) (by kernel_rfl) (by simp) ?_
          refine AllReadyH.cons rfl (fun K hK => ?_) AllReadyH.nil
          clear hHeld
          have s22 := Lib.hid (OwnSt.allocI s21.out)
          have hc22 := Lib.hid (show RowH _ _ (.slice none 0 0) (.slice none 0 0) (.slice none 0 0) from Row.alloc hc21.out (.cells #[] 3))
          go_simp
          refine hK.out _ _ ⟨s22.out.rp.c1, s22.out.rp.c2⟩ (fun hHeld => ?_)
          clear hK K
          (try simp only [Act.put, List.getElem_toArray, List.getElem_cons_zero, List.getElem_cons_succ, List.setIfInBounds_toArray, List.set_cons_zero, List.set_cons_succ])
          generalize hv22 : Value.slice (some ⟨x21.heap.size, 0, none⟩) 0 0 = y22 at *
          clear hv22
          generalize x21.alloc (.cells #[] 3) = x22 at *
          refine wpAnyH_ready (rs := [7]) (by kernel_rfl) (by simp) ?_
          refine AllReadyH.cons rfl (fun K hK => ?_) AllReadyH.nil
          clear hHeld
          obtain ⟨y23, x23, hrun23, t23, hrw23⟩ := OwnSt.appI s22.out HRA.out (by have := HLN.out; omega) 24
          have hc23 := Lib.hid (hrw23 _ _ _ _ hc22.out)
          have s23 := Lib.hid t23
          clear t23 hrw23
          rw [if_pos (by rfl)]
          refine op_app _ _ _ rfl rfl rfl hrun23 ?_
          refine hK.out _ _ ⟨s23.out.rp.c1, s23.out.rp.c2⟩ (fun hHeld => ?_)
          clear hK K hrun23
          (try simp only [Act.put, List.getElem_toArray, List.getElem_cons_zero, List.getElem_cons_succ, List.setIfInBounds_toArray, List.set_cons_zero, List.set_cons_succ])
          obtain ⟨_, ⟨pb, qb, hpb⟩, ⟨pc, qc, hpc⟩⟩ := s23.out.ow.shapes
          simp only [] at hpb hpc
          subst hpb
          subst hpc
          refine wpAnyH_take (i := 8) (v := ?va8x11) rfl (by kernel_rfl) (by kernel_rfl) (by kernel_rfl) (fun _ _ _ h => h) (Or.inl ⟨by rfl, ?hy8x11⟩) (by assumption) ?rest8x11
          case hy8x11 => (intro w hSw; (try dsimp only at hSw); go_simp; try with_reducible rfl)
          (try simp only [Act.put, List.getElem_toArray, List.getElem_cons_zero, List.getElem_cons_succ, List.setIfInBounds_toArray, List.set_cons_zero, List.set_cons_succ])
          have z0 := hc23.out.c0
          have z1 := hc23.out.c1
          have z2 := hc23.out.c2
          have f0 := Row.frozen hc23.out 0
          have f1 := Row.frozen hc23.out 1
          have f2 := Row.frozen hc23.out 2
          have hne : w.heap.size ≠ g20 := by have := hd20.out; omega
          have hne1 : w.heap.size + 1 ≠ g20 := by have := hd20.out; omega
          have HST : Hid (OwnSt w (((x23.setCell ⟨g20, 0, none⟩ (.slice none 0 0)).setCell ⟨g20, 1, none⟩ (.slice pb h.l.length qb)).setCell ⟨g20, 2, none⟩ (.slice pc h.r.length qc)) (.slice fa h.f.length fc) (.slice la h.l.length lc) (.slice ra h.r.length rc) (.slice pb h.l.length qb) (.slice pc h.r.length qc) h.l h.r) := own_store s23.out hc23.out hd20.out _ _ _
          have HRC := Lib.hid (hc23.out.set3 (.slice none 0 0) (.slice pb h.l.length qb) (.slice pc h.r.length qc))
          clear hHeld
          refine wpAnyH_ready (rs := [10]) (by kernel_rfl) (by simp) ?_
          refine AllReadyH.cons rfl (fun K hK => ?_) AllReadyH.nil
          go_simp
          refine hK.out _ _ ⟨HST.out.rp.c1, HST.out.rp.c2⟩ (fun hHeld => ?_)
          clear hK K z0 z1 z2 f0 f1 f2
          (try simp only [Act.put, List.getElem_toArray, List.getElem_cons_zero, List.getElem_cons_succ, List.setIfInBounds_toArray, List.set_cons_zero, List.set_cons_succ])
          refine wpAnyH_done (by kernel_rfl) ?_ _
          go_wp2_with fail
          go_meet
          case rel => exact ⟨g20, pb, qb, pc, qc, rfl, HRC, HST, hd20⟩
        · skip
          clear hHeld
          have s24 := Lib.hid (OwnSt.allocI s20.out)
          have hc24 := Lib.hid (show RowH _ _ (.slice none 0 0) (.slice none 0 0) (.slice none 0 0) from Row.alloc hc20.out (.cells #[] 3))
          go_simp
          refine hK.out _ _ ⟨s24.out.rp.c1, s24.out.rp.c2⟩ (fun hHeld => ?_)
          clear hK K
          (try simp only [Act.put, List.getElem_toArray, List.getElem_cons_zero, List.getElem_cons_succ, List.setIfInBounds_toArray, List.set_cons_zero, List.set_cons_succ])
          generalize hv24 : Value.slice (some ⟨x20.heap.size, 0, none⟩) 0 0 = y24 at *
          clear hv24
          generalize x20.alloc (.cells #[] 3) = x24 at *
          refine wpAnyH_ready (rs := [3]) (by kernel_rfl) (by simp) ?_
          refine AllReadyH.cons rfl (fun K hK => ?_) AllReadyH.nil
          clear hHeld
          obtain ⟨y25, x25, hrun25, t25, hrw25⟩ := OwnSt.appB s24.out HLA.out (by have := HLN.out; omega) 23
          have hc25 := Lib.hid (hrw25 _ _ _ _ hc24.out)
          have s25 := Lib.hid t25
          clear t25 hrw25
          rw [if_pos (by rfl)]
          refine op_app _ _ _ rfl rfl rfl hrun25 ?_
          refine hK.out _ _ ⟨s25.out.rp.c1, s25.out.rp.c2⟩ (fun hHeld => ?_)
          clear hK K hrun25
          (try simp only [Act.put, List.getElem_toArray, List.getElem_cons_zero, List.getElem_cons_succ, List.setIfInBounds_toArray, List.set_cons_zero, List.set_cons_succ])
          refine wpAnyH_ready (rs := [7]) (by kernel_rfl) (by simp) ?_
          refine AllReadyH.cons rfl (fun K hK => ?_) AllReadyH.nil
          clear hHeld
          obtain ⟨y26, x26, hrun26, t26, hrw26⟩ := OwnSt.appI s25.out HRA.out (by have := HLN.out; omega) 24
          have hc26 := Lib.hid (hrw26 _ _ _ _ hc25.out)
          have s26 := Lib.hid t26
          clear t26 hrw26
          rw [if_pos (by rfl)]
          refine op_app _ _ _ rfl rfl rfl hrun26 ?_
          refine hK.out _ _ ⟨s26.out.rp.c1, s26.out.rp.c2⟩ (fun hHeld => ?_)
          clear hK K hrun26
          (try simp only [Act.put, List.getElem_toArray, List.getElem_cons_zero, List.getElem_cons_succ, List.setIfInBounds_toArray, List.set_cons_zero, List.set_cons_succ])
          obtain ⟨_, ⟨pb, qb, hpb⟩, ⟨pc, qc, hpc⟩⟩ := s26.out.ow.shapes
          simp only [] at hpb hpc
          subst hpb
          subst hpc
          refine wpAnyH_take (i := 8) (v := ?va8x12) rfl (by kernel_rfl) (by kernel_rfl) (by kernel_rfl) (fun _ _ _ h => h) (Or.inl ⟨by rfl, ?hy8x12⟩) (by assumption) ?rest8x12
          case hy8x12 => (intro w hSw; (try dsimp only at hSw); go_simp; try with_reducible rfl)
          (try simp only [Act.put, List.getElem_toArray, List.getElem_cons_zero, List.getElem_cons_succ, List.setIfInBounds_toArray, List.set_cons_zero, List.set_cons_succ])
          have z0 := hc26.out.c0
          have z1 := hc26.out.c1
          have z2 := hc26.out.c2
          have f0 := Row.frozen hc26.out 0
          have f1 := Row.frozen hc26.out 1
          have f2 := Row.frozen hc26.out 2
          have hne : w.heap.size ≠ g20 := by have := hd20.out; omega
          have hne1 : w.heap.size + 1 ≠ g20 := by have := hd20.out; omega
          have HST : Hid (OwnSt w (((x26.setCell ⟨g20, 0, none⟩ (.slice none 0 0)).setCell ⟨g20, 1, none⟩ (.slice pb h.l.length qb)).setCell ⟨g20, 2, none⟩ (.slice pc h.r.length qc)) (.slice fa h.f.length fc) (.slice la h.l.length lc) (.slice ra h.r.length rc) (.slice pb h.l.length qb) (.slice pc h.r.length qc) h.l h.r) := own_store s26.out hc26.out hd20.out _ _ _
          have HRC := Lib.hid (hc26.out.set3 (.slice none 0 0) (.slice pb h.l.length qb) (.slice pc h.r.length qc))
          clear hHeld
          refine wpAnyH_ready (rs := [10]) (by kernel_rfl) (by simp) ?_
          refine AllReadyH.cons rfl (fun K hK => ?_) AllReadyH.nil
          go_simp
          refine hK.out _ _ ⟨HST.out.rp.c1, HST.out.rp.c2⟩ (fun hHeld => ?_)
          clear hK K z0 z1 z2 f0 f1 f2
          (try simp only [Act.put, List.getElem_toArray, List.getElem_cons_zero, List.getElem_cons_succ, List.setIfInBounds_toArray, List.set_cons_zero, List.set_cons_succ])
          refine wpAnyH_done (by kernel_rfl) ?_ _
          go_wp2_with fail
          go_meet
          case rel => exact ⟨g20, pb, qb, pc, qc, rfl, HRC, HST, hd20⟩
    · skip
      clear hHeld
      have s27 := Lib.hid (OwnSt.allocI s0.out)
      go_simp
      refine hK.out _ _ ⟨s27.out.rp.c1, s27.out.rp.c2⟩ (fun hHeld => ?_)
      clear hK K
      (try simp only [Act.put, List.getElem_toArray, List.getElem_cons_zero, List.getElem_cons_succ, List.setIfInBounds_toArray, List.set_cons_zero, List.set_cons_succ])
      generalize hv27 : Value.slice (some ⟨x0.heap.size, 0, none⟩) 0 0 = y27 at *
      clear hv27
      generalize x0.alloc (.cells #[] 3) = x27 at *
      refine wpAnyH_ready (rs := [0, 9]) (by kernel_rfl) (by simp) ?_
      refine AllReadyH.cons rfl (fun K hK => ?_) (AllReadyH.cons rfl (fun K hK => ?_) AllReadyH.nil)
      · skip
        clear hHeld
        have s28 := Lib.hid (OwnSt.allocB s27.out)
        go_simp
        refine hK.out _ _ ⟨s28.out.rp.c1, s28.out.rp.c2⟩ (fun hHeld => ?_)
        clear hK K
        (try simp only [Act.put, List.getElem_toArray, List.getElem_cons_zero, List.setIfInBounds_toArray, List.set_cons_zero, List.set_cons_succ])
        generalize hv28 : Value.slice (some ⟨x27.heap.size, 0, none⟩) 0 0 = y28 at *
        clear hv28
        generalize x27.alloc (.cells #[] 4) = x28 at *
        refine wpAnyH_ready (rs := [3, 9]) (by kernel_rfl) (by simp) ?_
        refine AllReadyH.cons rfl (fun K hK => ?_) (AllReadyH.cons rfl (fun K hK => ?_) AllReadyH.nil)
        · skip
          clear hHeld
          obtain ⟨y29, x29, hrun29, t29, hrw29⟩ := OwnSt.appB s28.out HLA.out (by have := HLN.out; omega) 23
          have s29 := Lib.hid t29
          clear t29 hrw29
          rw [if_pos (by rfl)]
          refine op_app _ _ _ rfl rfl rfl hrun29 ?_
          refine hK.out _ _ ⟨s29.out.rp.c1, s29.out.rp.c2⟩ (fun hHeld => ?_)
          clear hK K hrun29
          (try simp only [Act.put, List.getElem_toArray, List.getElem_cons_zero, List.getElem_cons_succ, List.setIfInBounds_toArray, List.set_cons_zero, List.set_cons_succ])
          refine wpAnyH_ready (rs := [7, 9]) (by kernel_rfl) (by simp) ?_
          refine AllReadyH.cons rfl (fun K hK => ?_) (AllReadyH.cons rfl (fun K hK => ?_) AllReadyH.nil)
          · skip
            clear hHeld
            obtain ⟨y30, x30, hrun30, t30, hrw30⟩ := OwnSt.appI s29.out HRA.out (by have := HLN.out; omega) 24
            have s30 := Lib.hid t30
            clear t30 hrw30
            rw [if_pos (by rfl)]
            refine op_app _ _ _ rfl rfl rfl hrun30 ?_
            refine hK.out _ _ ⟨s30.out.rp.c1, s30.out.rp.c2⟩ (fun hHeld => ?_)
            clear hK K hrun30
            (try simp only [Act.put, List.getElem_toArray, List.getElem_cons_zero, List.getElem_cons_succ, List.setIfInBounds_toArray, List.set_cons_zero, List.set_cons_succ])
            obtain ⟨_, ⟨pb, qb, hpb⟩, ⟨pc, qc, hpc⟩⟩ := s30.out.ow.shapes
            simp only [] at hpb hpc
            subst hpb
            subst hpc
            refine wpAnyH_take (i := 8) (v := ?va8x13) rfl (by kernel_rfl) (by kernel_rfl) (by kernel_rfl) (fun _ _ _ h => h) (Or.inl ⟨by rfl, ?hy8x13⟩) (by assumption) ?rest8x13
            case hy8x13 => (intro w hSw; (try dsimp only at hSw); go_simp; try with_reducible rfl)
            (try simp only [Act.put, List.getElem_toArray, List.getElem_cons_zero, List.getElem_cons_succ, List.setIfInBounds_toArray, List.set_cons_zero, List.set_cons_succ])
            refine wpAnyH_ready (rs := [9]) (by kernel_rfl) (by simp) ?_
            refine AllReadyH.cons rfl (fun K hK => ?_) AllReadyH.nil
            clear hHeld
            have s31 := Lib.hid (OwnSt.allocC s30.out)
            have hc31 := Lib.hid (show RowH (x30.alloc (.cells (c3 (.slice none 0 0) (.slice none 0 0) (.slice none 0 0)) 30)) x30.heap.size (.slice none 0 0) (.slice none 0 0) (.slice none 0 0) from Row.new x30 _ _)
            go_simp
            refine hK.out _ _ ⟨s31.out.rp.c1, s31.out.rp.c2⟩ (fun hHeld => ?_)
            clear hK K
            (try simp only [Act.put, List.getElem_toArray, List.getElem_cons_zero, List.getElem_cons_succ, List.setIfInBounds_toArray, List.set_cons_zero, List.set_cons_succ])
            have hd31 : Hid (w.heap.size + 2 ≤ x30.heap.size) := s30.out.sz
            generalize x30.heap.size = g31 at *
            generalize x30.alloc (.cells (c3 (.slice none 0 0) (.slice none 0 0) (.slice none 0 0)) 30) = x31 at *
            have z0 := hc31.out.c0
            have z1 := hc31.out.c1
            have z2 := hc31.out.c2
            have f0 := Row.frozen hc31.out 0
            have f1 := Row.frozen hc31.out 1
            have f2 := Row.frozen hc31.out 2
            have hne : w.heap.size ≠ g31 := by have := hd31.out; omega
            have hne1 : w.heap.size + 1 ≠ g31 := by have := hd31.out; omega
            have HST : Hid (OwnSt w (((x31.setCell ⟨g31, 0, none⟩ (.slice none 0 0)).setCell ⟨g31, 1, none⟩ (.slice pb h.l.length qb)).setCell ⟨g31, 2, none⟩ (.slice pc h.r.length qc)) (.slice fa h.f.length fc) (.slice la h.l.length lc) (.slice ra h.r.length rc) (.slice pb h.l.length qb) (.slice pc h.r.length qc) h.l h.r) := own_store s31.out hc31.out hd31.out _ _ _
            have HRC := Lib.hid (hc31.out.set3 (.slice none 0 0) (.slice pb h.l.length qb) (.slice pc h.r.length qc))
            clear hHeld
            refine wpAnyH_ready (rs := [10]) (by kernel_rfl) (by simp) ?_
            refine AllReadyH.cons rfl (fun K hK => ?_) AllReadyH.nil
            go_simp
            refine hK.out _ _ ⟨HST.out.rp.c1, HST.out.rp.c2⟩ (fun hHeld => ?_)
            clear hK K z0 z1 z2 f0 f1 f2
            (try simp only [Act.put, List.getElem_toArray, List.getElem_cons_zero, List.getElem_cons_succ, List.setIfInBounds_toArray, List.set_cons_zero, List.set_cons_succ])
            refine wpAnyH_done (by kernel_rfl) ?_ _
            go_wp2_with fail
            go_meet
            case rel => exact ⟨g31, pb, qb, pc, qc, rfl, HRC, HST, hd31⟩
          · skip
            clear hHeld
            have s32 := Lib.hid (OwnSt.allocC s29.out)
            have hc32 := Lib.hid (show RowH (x29.alloc (.cells (c3 (.slice none 0 0) (.slice none 0 0) (.slice none 0 0)) 30)) x29.heap.size (.slice none 0 0) (.slice none 0 0) (.slice none 0 0) from Row.new x29 _ _)
            go_simp
            refine hK.out _ _ ⟨s32.out.rp.c1, s32.out.rp.c2⟩ (fun hHeld => ?_)
            clear hK K
            (try simp only [Act.put, List.getElem_toArray, List.getElem_cons_zero, List.getElem_cons_succ, List.setIfInBounds_toArray, List.set_cons_zero, List.set_cons_succ])
            have hd32 : Hid (w.heap.size + 2 ≤ x29.heap.size) := s29.out.sz
            generalize x29.heap.size = g32 at *
            generalize x29.alloc (.cells (c3 (.slice none 0 0) (.slice none 0 0) (.slice none 0 0)) 30) = x32 at *
            refine wpAnyH_ready (rs := [7]) (by kernel_rfl) (by simp) ?_
            refine AllReadyH.cons rfl (fun K hK => ?_) AllReadyH.nil
            clear hHeld
            obtain ⟨y33, x33, hrun33, t33, hrw33⟩ := OwnSt.appI s32.out HRA.out (by have := HLN.out; omega) 24
            have hc33 := Lib.hid (hrw33 _ _ _ _ hc32.out)
            have s33 := Lib.hid t33
            clear t33 hrw33
            rw [if_pos (by rfl)]
            refine op_app _ _ _ rfl rfl rfl hrun33 ?_
            refine hK.out _ _ ⟨s33.out.rp.c1, s33.out.rp.c2⟩ (fun hHeld => ?_)
            clear hK K hrun33
            (try simp only [Act.put, List.getElem_toArray, List.getElem_cons_zero, List.getElem_cons_succ, List.setIfInBounds_toArray, List.set_cons_zero, List.set_cons_succ])
            obtain ⟨_, ⟨pb, qb, hpb⟩, ⟨pc, qc, hpc⟩⟩ := s33.out.ow.shapes
            simp only [] at hpb hpc
            subst hpb
            subst hpc
            refine wpAnyH_take (i := 8) (v := ?va8x14) rfl (by kernel_rfl) (by kernel_rfl) (by kernel_rfl) (fun _ _ _ h => h) (Or.inl ⟨by rfl, ?hy8x14⟩) (by assumption) ?rest8x14
            case hy8x14 => (intro w hSw; (try dsimp only at hSw); go_simp; try with_reducible rfl)
            (try simp only [Act.put, List.getElem_toArray, List.getElem_cons_zero, List.getElem_cons_succ, List.setIfInBounds_toArray, List.set_cons_zero, List.set_cons_succ])
            have z0 := hc33.out.c0
            have z1 := hc33.out.c1
            have z2 := hc33.out.c2
            have f0 := Row.frozen hc33.out 0
            have f1 := Row.frozen hc33.out 1
            have f2 := Row.frozen hc33.out 2
            have hne : w.heap.size ≠ g32 := by have := hd32.out; omega
            have hne1 : w.heap.size + 1 ≠ g32 := by have := hd32.out; omega
            have HST : Hid (OwnSt w (((x33.setCell ⟨g32, 0, none⟩ (.slice none 0 0)).setCell ⟨g32, 1, none⟩ (.slice pb h.l.length qb)).setCell ⟨g32, 2, none⟩ (.slice pc h.r.length qc)) (.slice fa h.f.length fc) (.slice la h.l.length lc) (.slice ra h.r.length rc) (.slice pb h.l.length qb) (.slice pc h.r.length qc) h.l h.r) := own_store s33.out hc33.out hd32.out _ _ _
            have HRC := Lib.hid (hc33.out.set3 (.slice none 0 0) (.slice pb h.l.length qb) (.slice pc h.r.length qc))
            clear hHeld
            refine wpAnyH_ready (rs := [10]) (by kernel_rfl) (by simp) ?_
            refine AllReadyH.cons rfl (fun K hK => ?_) AllReadyH.nil
            go_simp
            refine hK.out _ _ ⟨HST.out.rp.c1, HST.out.rp.c2⟩ (fun hHeld => ?_)
            clear hK K z0 z1 z2 f0 f1 f2
            (try simp only [Act.put, List.getElem_toArray, List.getElem_cons_zero, List.getElem_cons_succ, List.setIfInBounds_toArray, List.set_cons_zero, List.set_cons_succ])
            refine wpAnyH_done (by kernel_rfl) ?_ _
            go_wp2_with fail
            go_meet
            case rel => exact ⟨g32, pb, qb, pc, qc, rfl, HRC, HST, hd32⟩
        · skip
          clear hHeld
          have s34 := Lib.hid (OwnSt.allocC s28.out)
          have hc34 := Lib.hid (show RowH (x28.alloc (.cells (c3 (.slice none 0 0) (.slice none 0 0) (.slice none 0 0)) 30)) x28.heap.size (.slice none 0 0) (.slice none 0 0) (.slice none 0 0) from Row.new x28 _ _)
          go_simp
          refine hK.out _ _ ⟨s34.out.rp.c1, s34.out.rp.c2⟩ (fun hHeld => ?_)
          clear hK K
          (try simp only [Act.put, List.getElem_toArray, List.getElem_cons_zero, List.getElem_cons_succ, List.setIfInBounds_toArray, List.set_cons_zero, List.set_cons_succ])
          have hd34 : Hid (w.heap.size + 2 ≤ x28.heap.size) := s28.out.sz
          generalize x28.heap.size = g34 at *
          generalize x28.alloc (.cells (c3 (.slice none 0 0) (.slice none 0 0) (.slice none 0 0)) 30) = x34 at *
          refine wpAnyH_ready (rs := [3]) (by kernel_rfl) (by simp) ?_
          refine AllReadyH.cons rfl (fun K hK => ?_) AllReadyH.nil
          clear hHeld
          obtain ⟨y35, x35, hrun35, t35, hrw35⟩ := OwnSt.appB s34.out HLA.out (by have := HLN.out; omega) 23
          have hc35 := Lib.hid (hrw35 _ _ _ _ hc34.out)
          have s35 := Lib.hid t35
          clear t35 hrw35
          rw [if_pos (by rfl)]
          refine op_app _ _ _ rfl rfl rfl hrun35 ?_
          refine hK.out _ _ ⟨s35.out.rp.c1, s35.out.rp.c2⟩ (fun hHeld => ?_)
          clear hK K hrun35
          (try simp only [Act.put, List.getElem_toArray, List.getElem_cons_zero, List.getElem_cons_succ, List.setIfInBounds_toArray, List.set_cons_zero, List.set_cons_succ])
          refine wpAnyH_ready (rs := [7]) (by kernel_rfl) (by simp) ?_
          refine AllReadyH.cons rfl (fun K hK => ?_) AllReadyH.nil
          clear hHeld
          obtain ⟨y36, x36, hrun36, t36, hrw36⟩ := OwnSt.appI s35.out HRA.out (by have := HLN.out; omega) 24
          have hc36 := Lib.hid (hrw36 _ _ _ _ hc35.out)
          have s36 := Lib.hid t36
          clear t36 hrw36
          rw [if_pos (by rfl)]
          refine op_app _ _ _ rfl rfl rfl hrun36 ?_
          refine hK.out _ _ ⟨s36.out.rp.c1, s36.out.rp.c2⟩ (fun hHeld => ?_)
          clear hK K hrun36
          (try simp only [Act.put, List.getElem_toArray, List.getElem_cons_zero, List.getElem_cons_succ, List.setIfInBounds_toArray, List.set_cons_zero, List.set_cons_succ])
          obtain ⟨_, ⟨pb, qb, hpb⟩, ⟨pc, qc, hpc⟩⟩ := s36.out.ow.shapes
          simp only [] at hpb hpc
          subst hpb
          subst hpc
          refine wpAnyH_take (i := 8) (v := ?va8x15) rfl (by kernel_rfl) (by kernel_rfl) (by kernel_rfl) (fun _ _ _ h => h) (Or.inl ⟨by rfl, ?hy8x15⟩) (by assumption) ?rest8x15
          case hy8x15 => (intro w hSw; (try dsimp only at hSw); go_simp; try with_reducible rfl)
          (try simp only [Act.put, List.getElem_toArray, List.getElem_cons_zero, List.getElem_cons_succ, List.setIfInBounds_toArray, List.set_cons_zero, List.set_cons_succ])
          have z0 := hc36.out.c0
          have z1 := hc36.out.c1
          have z2 := hc36.out.c2
          have f0 := Row.frozen hc36.out 0
          have f1 := Row.frozen hc36.out 1
          have f2 := Row.frozen hc36.out 2
          have hne : w.heap.size ≠ g34 := by have := hd34.out; omega
          have hne1 : w.heap.size + 1 ≠ g34 := by have := hd34.out; omega
          have HST : Hid (OwnSt w (((x36.setCell ⟨g34, 0, none⟩ (.slice none 0 0)).setCell ⟨g34, 1, none⟩ (.slice pb h.l.length qb)).setCell ⟨g34, 2, none⟩ (.slice pc h.r.length qc)) (.slice fa h.f.length fc) (.slice la h.l.length lc) (.slice ra h.r.length rc) (.slice pb h.l.length qb) (.slice pc h.r.length qc) h.l h.r) := own_store s36.out hc36.out hd34.out _ _ _
          have HRC := Lib.hid (hc36.out.set3 (.slice none 0 0) (.slice pb h.l.length qb) (.slice pc h.r.length qc))
          clear hHeld
          refine wpAnyH_ready (rs := [10]) (by kernel_rfl) (by simp) ?_
          refine AllReadyH.cons rfl (fun K hK => ?_) AllReadyH.nil
          go_simp
          refine hK.out _ _ ⟨HST.out.rp.c1, HST.out.rp.c2⟩ (fun hHeld => ?_)
          clear hK K z0 z1 z2 f0 f1 f2
          (try simp only [Act.put, List.getElem_toArray, List.getElem_cons_zero, List.getElem_cons_succ, List.setIfInBounds_toArray, List.set_cons_zero, List.set_cons_succ])
          refine wpAnyH_done (by kernel_rfl) ?_ _
          go_wp2_with fail
          go_meet
          case rel => exact ⟨g34, pb, qb, pc, qc, rfl, HRC, HST, hd34⟩
      · skip
        clear hHeld
        have s37 := Lib.hid (OwnSt.allocC s27.out)
        have hc37 := Lib.hid (show RowH (x27.alloc (.cells (c3 (.slice none 0 0) (.slice none 0 0) (.slice none 0 0)) 30)) x27.heap.size (.slice none 0 0) (.slice none 0 0) (.slice none 0 0) from Row.new x27 _ _)
        go_simp
        refine hK.out _ _ ⟨s37.out.rp.c1, s37.out.rp.c2⟩ (fun hHeld => ?_)
        clear hK K
        (try simp only [Act.put, List.getElem_toArray, List.getElem_cons_zero, List.getElem_cons_succ, List.setIfInBounds_toArray, List.set_cons_zero, List.set_cons_succ])
        have hd37 : Hid (w.heap.size + 2 ≤ x27.heap.size) := s27.out.sz
        generalize x27.heap.size = g37 at *
        generalize x27.alloc (.cells (c3 (.slice none 0 0) (.slice none 0 0) (.slice none 0 0)) 30) = x37 at *
        refine wpAnyH_ready (rs := [0]) (by kernel_rfl) (by simp) ?_
        refine AllReadyH.cons rfl (fun K hK => ?_) AllReadyH.nil
        clear hHeld
        have s38 := Lib.hid (OwnSt.allocB s37.out)
        have hc38 := Lib.hid (show RowH _ _ (.slice none 0 0) (.slice none 0 0) (.slice none 0 0) from Row.alloc hc37.out (.cells #[] 4))
        go_simp
        refine hK.out _ _ ⟨s38.out.rp.c1, s38.out.rp.c2⟩ (fun hHeld => ?_)
        clear hK K
        (try simp only [Act.put, List.getElem_toArray, List.getElem_cons_zero, List.setIfInBounds_toArray, List.set_cons_zero, List.set_cons_succ])
        generalize hv38 : Value.slice (some ⟨x37.heap.size, 0, none⟩) 0 0 = y38 at *
        clear hv38
        generalize x37.alloc (.cells #[] 4) = x38 at *
        refine wpAnyH_ready (rs := [3]) (by kernel_rfl) (by simp) ?_
        refine AllReadyH.cons rfl (fun K hK => ?_) AllReadyH.nil
        clear hHeld
        obtain ⟨y39, x39, hrun39, t39, hrw39⟩ := OwnSt.appB s38.out HLA.out (by have := HLN.out; omega) 23
        have hc39 := Lib.hid (hrw39 _ _ _ _ hc38.out)
        have s39 := Lib.hid t39
        clear t39 hrw39
        rw [if_pos (by rfl)]
        refine op_app _ _ _ rfl rfl rfl hrun39 ?_
        refine hK.out _ _ ⟨s39.out.rp.c1, s39.out.rp.c2⟩ (fun hHeld => ?_)
        clear hK K hrun39
        (try simp only [Act.put, List.getElem_toArray, List.getElem_cons_zero, List.getElem_cons_succ, List.setIfInBounds_toArray, List.set_cons_zero, List.set_cons_succ])
        refine wpAnyH_ready (rs := [7]) (by kernel_rfl) (by simp) ?_
        refine AllReadyH.cons rfl (fun K hK => ?_) AllReadyH.nil
        clear hHeld
        obtain ⟨y40, x40, hrun40, t40, hrw40⟩ := OwnSt.appI s39.out HRA.out (by have := HLN.out; omega) 24
        have hc40 := Lib.hid (hrw40 _ _ _ _ hc39.out)
        have s40 := Lib.hid t40
        clear t40 hrw40
        rw [if_pos (by rfl)]
        refine op_app _ _ _ rfl rfl rfl hrun40 ?_
        refine hK.out _ _ ⟨s40.out.rp.c1, s40.out.rp.c2⟩ (fun hHeld => ?_)
        clear hK K hrun40
        (try simp only [Act.put, List.getElem_toArray, List.getElem_cons_zero, List.getElem_cons_succ, List.setIfInBounds_toArray, List.set_cons_zero, List.set_cons_succ])
        obtain ⟨_, ⟨pb, qb, hpb⟩, ⟨pc, qc, hpc⟩⟩ := s40.out.ow.shapes
        simp only [] at hpb hpc
        subst hpb
        subst hpc
        refine wpAnyH_take (i := 8) (v := ?va8x16) rfl (by kernel_rfl) (by kernel_rfl) (by kernel_rfl) (fun _ _ _ h => h) (Or.inl ⟨by rfl, ?hy8x16⟩) (by assumption) ?rest8x16
        case hy8x16 => (intro w hSw; (try dsimp only at hSw); go_simp; try with_reducible rfl)
        (try simp only [Act.put, List.getElem_toArray, List.getElem_cons_zero, List.getElem_cons_succ, List.setIfInBounds_toArray, List.set_cons_zero, List.set_cons_succ])
        have z0 := hc40.out.c0
        have z1 := hc40.out.c1
        have z2 := hc40.out.c2
        have f0 := Row.frozen hc40.out 0
        have f1 := Row.frozen hc40.out 1
        have f2 := Row.frozen hc40.out 2
        have hne : w.heap.size ≠ g37 := by have := hd37.out; omega
        have hne1 : w.heap.size + 1 ≠ g37 := by have := hd37.out; omega
        have HST : Hid (OwnSt w (((x40.setCell ⟨g37, 0, none⟩ (.slice none 0 0)).setCell ⟨g37, 1, none⟩ (.slice pb h.l.length qb)).setCell ⟨g37, 2, none⟩ (.slice pc h.r.length qc)) (.slice fa h.f.length fc) (.slice la h.l.length lc) (.slice ra h.r.length rc) (.slice pb h.l.length qb) (.slice pc h.r.length qc) h.l h.r) := own_store s40.out hc40.out hd37.out _ _ _
        have HRC := Lib.hid (hc40.out.set3 (.slice none 0 0) (.slice pb h.l.length qb) (.slice pc h.r.length qc))
        clear hHeld
        refine wpAnyH_ready (rs := [10]) (by kernel_rfl) (by simp) ?_
        refine AllReadyH.cons rfl (fun K hK => ?_) AllReadyH.nil
        go_simp
        refine hK.out _ _ ⟨HST.out.rp.c1, HST.out.rp.c2⟩ (fun hHeld => ?_)
        clear hK K z0 z1 z2 f0 f1 f2
        (try simp only [Act.put, List.getElem_toArray, List.getElem_cons_zero, List.getElem_cons_succ, List.setIfInBounds_toArray, List.set_cons_zero, List.set_cons_succ])
        refine wpAnyH_done (by kernel_rfl) ?_ _
        go_wp2_with fail
        go_meet
        case rel => exact ⟨g37, pb, qb, pc, qc, rfl, HRC, HST, hd37⟩
    · skip
      clear hHeld
      have s41 := Lib.hid (OwnSt.allocC s0.out)
      have hc41 := Lib.hid (show RowH (x0.alloc (.cells (c3 (.slice none 0 0) (.slice none 0 0) (.slice none 0 0)) 30)) x0.heap.size (.slice none 0 0) (.slice none 0 0) (.slice none 0 0) from Row.new x0 _ _)
      go_simp
      refine hK.out _ _ ⟨s41.out.rp.c1, s41.out.rp.c2⟩ (fun hHeld => ?_)
      clear hK K
      (try simp only [Act.put, List.getElem_toArray, List.getElem_cons_zero, List.getElem_cons_succ, List.setIfInBounds_toArray, List.set_cons_zero, List.set_cons_succ])
      have hd41 : Hid (w.heap.size + 2 ≤ x0.heap.size) := s0.out.sz
      generalize x0.heap.size = g41 at *
      generalize x0.alloc (.cells (c3 (.slice none 0 0) (.slice none 0 0) (.slice none 0 0)) 30) = x41 at *
      refine wpAnyH_ready (rs := [0, 4]) (by kernel_rfl) (by simp) ?_
      refine AllReadyH.cons rfl (fun K hK => ?_) (AllReadyH.cons rfl (fun K hK => ?_) AllReadyH.nil)
      · skip
        clear hHeld
        have s42 := Lib.hid (OwnSt.allocB s41.out)
        have hc42 := Lib.hid (show RowH _ _ (.slice none 0 0) (.slice none 0 0) (.slice none 0 0) from Row.alloc hc41.out (.cells #[] 4))
        go_simp
        refine hK.out _ _ ⟨s42.out.rp.c1, s42.out.rp.c2⟩ (fun hHeld => ?_)
        clear hK K
        (try simp only [Act.put, List.getElem_toArray, List.getElem_cons_zero, List.setIfInBounds_toArray, List.set_cons_zero, List.set_cons_succ])
        generalize hv42 : Value.slice (some ⟨x41.heap.size, 0, none⟩) 0 0 = y42 at *
        clear hv42
        generalize x41.alloc (.cells #[] 4) = x42 at *
        refine wpAnyH_ready (rs := [3, 4]) (by kernel_rfl) (by simp) ?_
        refine AllReadyH.cons rfl (fun K hK => ?_) (AllReadyH.cons rfl (fun K hK => ?_) AllReadyH.nil)
        · skip
          clear hHeld
          obtain ⟨y43, x43, hrun43, t43, hrw43⟩ := OwnSt.appB s42.out HLA.out (by have := HLN.out; omega) 23
          have hc43 := Lib.hid (hrw43 _ _ _ _ hc42.out)
          have s43 := Lib.hid t43
          clear t43 hrw43
          rw [if_pos (by rfl)]
          refine op_app _ _ _ rfl rfl rfl hrun43 ?_
          refine hK.out _ _ ⟨s43.out.rp.c1, s43.out.rp.c2⟩ (fun hHeld => ?_)
          clear hK K hrun43
          (try simp only [Act.put, List.getElem_toArray, List.getElem_cons_zero, List.getElem_cons_succ, List.setIfInBounds_toArray, List.set_cons_zero, List.set_cons_succ])
          refine wpAnyH_ready (rs := [4]) (by kernel_rfl) (by simp) ?_
          refine AllReadyH.cons rfl (fun K hK => ?_) AllReadyH.nil
          clear hHeld
          have s44 := Lib.hid (OwnSt.allocI s43.out)
          have hc44 := Lib.hid (show RowH _ _ (.slice none 0 0) (.slice none 0 0) (.slice none 0 0) from Row.alloc hc43.out (.cells #[] 3))
          go_simp
          refine hK.out _ _ ⟨s44.out.rp.c1, s44.out.rp.c2⟩ (fun hHeld => ?_)
          clear hK K
          (try simp only [Act.put, List.getElem_toArray, List.getElem_cons_zero, List.getElem_cons_succ, List.setIfInBounds_toArray, List.set_cons_zero, List.set_cons_succ])
          generalize hv44 : Value.slice (some ⟨x43.heap.size, 0, none⟩) 0 0 = y44 at *
          clear hv44
          generalize x43.alloc (.cells #[] 3) = x44 at *
          refine wpAnyH_ready (rs := [7]) (by kernel_rfl) (by simp) ?_
          refine AllReadyH.cons rfl (fun K hK => ?_) AllReadyH.nil
          clear hHeld
          obtain ⟨y45, x45, hrun45, t45, hrw45⟩ := OwnSt.appI s44.out HRA.out (by have := HLN.out; omega) 24
          have hc45 := Lib.hid (hrw45 _ _ _ _ hc44.out)
          have s45 := Lib.hid t45
          clear t45 hrw45
          rw [if_pos (by rfl)]
          refine op_app _ _ _ rfl rfl rfl hrun45 ?_
          refine hK.out _ _ ⟨s45.out.rp.c1, s45.out.rp.c2⟩ (fun hHeld => ?_)
          clear hK K hrun45
          (try simp only [Act.put, List.getElem_toArray, List.getElem_cons_zero, List.getElem_cons_succ, List.setIfInBounds_toArray, List.set_cons_zero, List.set_cons_succ])
          obtain ⟨_, ⟨pb, qb, hpb⟩, ⟨pc, qc, hpc⟩⟩ := s45.out.ow.shapes
          simp only [] at hpb hpc
          subst hpb
          subst hpc
          refine wpAnyH_take (i := 8) (v := ?va8x17) rfl (by kernel_rfl) (by kernel_rfl) (by kernel_rfl) (fun _ _ _ h => h) (Or.inl ⟨by rfl, ?hy8x17⟩) (by assumption) ?rest8x17
          case hy8x17 => (intro w hSw; (try dsimp only at hSw); go_simp; try with_reducible rfl)
          (try simp only [Act.put, List.getElem_toArray, List.getElem_cons_zero, List.getElem_cons_succ, List.setIfInBounds_toArray, List.set_cons_zero, List.set_cons_succ])
          have z0 := hc45.out.c0
          have z1 := hc45.out.c1
          have z2 := hc45.out.c2
          have f0 := Row.frozen hc45.out 0
          have f1 := Row.frozen hc45.out 1
          have f2 := Row.frozen hc45.out 2
          have hne : w.heap.size ≠ g41 := by have := hd41.out; omega
          have hne1 : w.heap.size + 1 ≠ g41 := by have := hd41.out; omega
          have HST : Hid (OwnSt w (((x45.setCell ⟨g41, 0, none⟩ (.slice none 0 0)).setCell ⟨g41, 1, none⟩ (.slice pb h.l.length qb)).setCell ⟨g41, 2, none⟩ (.slice pc h.r.length qc)) (.slice fa h.f.length fc) (.slice la h.l.length lc) (.slice ra h.r.length rc) (.slice pb h.l.length qb) (.slice pc h.r.length qc) h.l h.r) := own_store s45.out hc45.out hd41.out _ _ _
          have HRC := Lib.hid (hc45.out.set3 (.slice none 0 0) (.slice pb h.l.length qb) (.slice pc h.r.length qc))
          clear hHeld
          refine wpAnyH_ready (rs := [10]) (by kernel_rfl) (by simp) ?_
          refine AllReadyH.cons rfl (fun K hK => ?_) AllReadyH.nil
          go_simp
          refine hK.out _ _ ⟨HST.out.rp.c1, HST.out.rp.c2⟩ (fun hHeld => ?_)
          clear hK K z0 z1 z2 f0 f1 f2
          (try simp only [Act.put, List.getElem_toArray, List.getElem_cons_zero, List.getElem_cons_succ, List.setIfInBounds_toArray, List.set_cons_zero, List.set_cons_succ])
          refine wpAnyH_done (by kernel_rfl) ?_ _
          go_wp2_with fail
          go_meet
          case rel => exact ⟨g41, pb, qb, pc, qc, rfl, HRC, HST, hd41⟩
        · skip
          clear hHeld
          have s46 := Lib.hid (OwnSt.allocI s42.out)
          have hc46 := Lib.hid (show RowH _ _ (.slice none 0 0) (.slice none 0 0) (.slice none 0 0) from Row.alloc hc42.out (.cells #[] 3))
          go_simp
          refine hK.out _ _ ⟨s46.out.rp.c1, s46.out.rp.c2⟩ (fun hHeld => ?_)
          clear hK K
          (try simp only [Act.put, List.getElem_toArray, List.getElem_cons_zero, List.getElem_cons_succ, List.setIfInBounds_toArray, List.set_cons_zero, List.set_cons_succ])
          generalize hv46 : Value.slice (some ⟨x42.heap.size, 0, none⟩) 0 0 = y46 at *
          clear hv46
          generalize x42.alloc (.cells #[] 3) = x46 at *
          refine wpAnyH_ready (rs := [3]) (by kernel_rfl) (by simp) ?_
          refine AllReadyH.cons rfl (fun K hK => ?_) AllReadyH.nil
          clear hHeld
          obtain ⟨y47, x47, hrun47, t47, hrw47⟩ := OwnSt.appB s46.out HLA.out (by have := HLN.out; omega) 23
          have hc47 := Lib.hid (hrw47 _ _ _ _ hc46.out)
          have s47 := Lib.hid t47
          clear t47 hrw47
          rw [if_pos (by rfl)]
          refine op_app _ _ _ rfl rfl rfl hrun47 ?_
          refine hK.out _ _ ⟨s47.out.rp.c1, s47.out.rp.c2⟩ (fun hHeld => ?_)
          clear hK K hrun47
          (try simp only [Act.put, List.getElem_toArray, List.getElem_cons_zero, List.getElem_cons_succ, List.setIfInBounds_toArray, List.set_cons_zero, List.set_cons_succ])
          refine wpAnyH_ready (rs := [7]) (by kernel_rfl) (by simp) ?_
          refine AllReadyH.cons rfl (fun K hK => ?_) AllReadyH.nil
          clear hHeld
          obtain ⟨y48, x48, hrun48, t48, hrw48⟩ := OwnSt.appI s47.out HRA.out (by have := HLN.out; omega) 24
          have hc48 := Lib.hid (hrw48 _ _ _ _ hc47.out)
          have s48 := Lib.hid t48
          clear t48 hrw48
          rw [if_pos (by rfl)]
          refine op_app _ _ _ rfl rfl rfl hrun48 ?_
          refine hK.out _ _ ⟨s48.out.rp.c1, s48.out.rp.c2⟩ (fun hHeld => ?_)
          clear hK K hrun48
          (try simp only [Act.put, List.getElem_toArray, List.getElem_cons_zero, List.getElem_cons_succ, List.setIfInBounds_toArray, List.set_cons_zero, List.set_cons_succ])
          obtain ⟨_, ⟨pb, qb, hpb⟩, ⟨pc, qc, hpc⟩⟩ := s48.out.ow.shapes
          simp only [] at hpb hpc
          subst hpb
          subst hpc
          refine wpAnyH_take (i := 8) (v := ?va8x18) rfl (by kernel_rfl) (by kernel_rfl) (by kernel_rfl) (fun _ _ _ h => h) (Or.inl ⟨by rfl, ?hy8x18⟩) (by assumption) ?rest8x18
          case hy8x18 => (intro w hSw; (try dsimp only at hSw); go_simp; try with_reducible rfl)
          (try simp only [Act.put, List.getElem_toArray, List.getElem_cons_zero, List.getElem_cons_succ, List.setIfInBounds_toArray, List.set_cons_zero, List.set_cons_succ])
          have z0 := hc48.out.c0
          have z1 := hc48.out.c1
          have z2 := hc48.out.c2
          have f0 := Row.frozen hc48.out 0
          have f1 := Row.frozen hc48.out 1
          have f2 := Row.frozen hc48.out 2
          have hne : w.heap.size ≠ g41 := by have := hd41.out; omega
          have hne1 : w.heap.size + 1 ≠ g41 := by have := hd41.out; omega
          have HST : Hid (OwnSt w (((x48.setCell ⟨g41, 0, none⟩ (.slice none 0 0)).setCell ⟨g41, 1, none⟩ (.slice pb h.l.length qb)).setCell ⟨g41, 2, none⟩ (.slice pc h.r.length qc)) (.slice fa h.f.length fc) (.slice la h.l.length lc) (.slice ra h.r.length rc) (.slice pb h.l.length qb) (.slice pc h.r.length qc) h.l h.r) := own_store s48.out hc48.out hd41.out _ _ _
          have HRC := Lib.hid (hc48.out.set3 (.slice none 0 0) (.slice pb h.l.length qb) (.slice pc h.r.length qc))
          clear hHeld
          refine wpAnyH_ready (rs := [10]) (by kernel_rfl) (by simp) ?_
          refine AllReadyH.cons rfl (fun K hK => ?_) AllReadyH.nil
          go_simp
          refine hK.out _ _ ⟨HST.out.rp.c1, HST.out.rp.c2⟩ (fun hHeld => ?_)
          clear hK K z0 z1 z2 f0 f1 f2
          (try simp only [Act.put, List.getElem_toArray, List.getElem_cons_zero, List.getElem_cons_succ, List.setIfInBounds_toArray, List.set_cons_zero, List.set_cons_succ])
          refine wpAnyH_done (by kernel_rfl) ?_ _
          go_wp2_with fail
          go_meet
          case rel => exact ⟨g41, pb, qb, pc, qc, rfl, HRC, HST, hd41⟩
      · skip
        clear hHeld
        have s49 := Lib.hid (OwnSt.allocI s41.out)
        have hc49 := Lib.hid (show RowH _ _ (.slice none 0 0) (.slice none 0 0) (.slice none 0 0) from Row.alloc hc41.out (.cells #[] 3))
        go_simp
        refine hK.out _ _ ⟨s49.out.rp.c1, s49.out.rp.c2⟩ (fun hHeld => ?_)
        clear hK K
        (try simp only [Act.put, List.getElem_toArray, List.getElem_cons_zero, List.getElem_cons_succ, List.setIfInBounds_toArray, List.set_cons_zero, List.set_cons_succ])
        generalize hv49 : Value.slice (some ⟨x41.heap.size, 0, none⟩) 0 0 = y49 at *
        clear hv49
        generalize x41.alloc (.cells #[] 3) = x49 at *
        refine wpAnyH_ready (rs := [0]) (by kernel_rfl) (by simp) ?_
        refine AllReadyH.cons rfl (fun K hK => ?_) AllReadyH.nil
        clear hHeld
        have s50 := Lib.hid (OwnSt.allocB s49.out)
        have hc50 := Lib.hid (show RowH _ _ (.slice none 0 0) (.slice none 0 0) (.slice none 0 0) from Row.alloc hc49.out (.cells #[] 4))
        go_simp
        refine hK.out _ _ ⟨s50.out.rp.c1, s50.out.rp.c2⟩ (fun hHeld => ?_)
        clear hK K
        (try simp only [Act.put, List.getElem_toArray, List.getElem_cons_zero, List.setIfInBounds_toArray, List.set_cons_zero, List.set_cons_succ])
        generalize hv50 : Value.slice (some ⟨x49.heap.size, 0, none⟩) 0 0 = y50 at *
        clear hv50
        generalize x49.alloc (.cells #[] 4) = x50 at *
        refine wpAnyH_ready (rs := [3]) (by kernel_rfl) (by simp) ?_
        refine AllReadyH.cons rfl (fun K hK => ?_) AllReadyH.nil
        clear hHeld
        obtain ⟨y51, x51, hrun51, t51, hrw51⟩ := OwnSt.appB s50.out HLA.out (by have := HLN.out; omega) 23
        have hc51 := Lib.hid (hrw51 _ _ _ _ hc50.out)
        have s51 := Lib.hid t51
        clear t51 hrw51
        rw [if_pos (by rfl)]
        refine op_app _ _ _ rfl rfl rfl hrun51 ?_
        refine hK.out _ _ ⟨s51.out.rp.c1, s51.out.rp.c2⟩ (fun hHeld => ?_)
        clear hK K hrun51
        (try simp only [Act.put, List.getElem_toArray, List.getElem_cons_zero, List.getElem_cons_succ, List.setIfInBounds_toArray, List.set_cons_zero, List.set_cons_succ])
        refine wpAnyH_ready (rs := [7]) (by kernel_rfl) (by simp) ?_
        refine AllReadyH.cons rfl (fun K hK => ?_) AllReadyH.nil
        clear hHeld
        obtain ⟨y52, x52, hrun52, t52, hrw52⟩ := OwnSt.appI s51.out HRA.out (by have := HLN.out; omega) 24
        have hc52 := Lib.hid (hrw52 _ _ _ _ hc51.out)
        have s52 := Lib.hid t52
        clear t52 hrw52
        rw [if_pos (by rfl)]
        refine op_app _ _ _ rfl rfl rfl hrun52 ?_
        refine hK.out _ _ ⟨s52.out.rp.c1, s52.out.rp.c2⟩ (fun hHeld => ?_)
        clear hK K hrun52
        (try simp only [Act.put, List.getElem_toArray, List.getElem_cons_zero, List.getElem_cons_succ, List.setIfInBounds_toArray, List.set_cons_zero, List.set_cons_succ])
        obtain ⟨_, ⟨pb, qb, hpb⟩, ⟨pc, qc, hpc⟩⟩ := s52.out.ow.shapes
        simp only [] at hpb hpc
        subst hpb
        subst hpc
        refine wpAnyH_take (i := 8) (v := ?va8x19) rfl (by kernel_rfl) (by kernel_rfl) (by kernel_rfl) (fun _ _ _ h => h) (Or.inl ⟨by rfl, ?hy8x19⟩) (by assumption) ?rest8x19
        case hy8x19 => (intro w hSw; (try dsimp only at hSw); go_simp; try with_reducible rfl)
        (try simp only [Act.put, List.getElem_toArray, List.getElem_cons_zero, List.getElem_cons_succ, List.setIfInBounds_toArray, List.set_cons_zero, List.set_cons_succ])
        have z0 := hc52.out.c0
        have z1 := hc52.out.c1
        have z2 := hc52.out.c2
        have f0 := Row.frozen hc52.out 0
        have f1 := Row.frozen hc52.out 1
        have f2 := Row.frozen hc52.out 2
        have hne : w.heap.size ≠ g41 := by have := hd41.out; omega
        have hne1 : w.heap.size + 1 ≠ g41 := by have := hd41.out; omega
        have HST : Hid (OwnSt w (((x52.setCell ⟨g41, 0, none⟩ (.slice none 0 0)).setCell ⟨g41, 1, none⟩ (.slice pb h.l.length qb)).setCell ⟨g41, 2, none⟩ (.slice pc h.r.length qc)) (.slice fa h.f.length fc) (.slice la h.l.length lc) (.slice ra h.r.length rc) (.slice pb h.l.length qb) (.slice pc h.r.length qc) h.l h.r) := own_store s52.out hc52.out hd41.out _ _ _
        have HRC := Lib.hid (hc52.out.set3 (.slice none 0 0) (.slice pb h.l.length qb) (.slice pc h.r.length qc))
        clear hHeld
        refine wpAnyH_ready (rs := [10]) (by kernel_rfl) (by simp) ?_
        refine AllReadyH.cons rfl (fun K hK => ?_) AllReadyH.nil
        go_simp
        refine hK.out _ _ ⟨HST.out.rp.c1, HST.out.rp.c2⟩ (fun hHeld => ?_)
        clear hK K z0 z1 z2 f0 f1 f2
        (try simp only [Act.put, List.getElem_toArray, List.getElem_cons_zero, List.getElem_cons_succ, List.setIfInBounds_toArray, List.set_cons_zero, List.set_cons_succ])
        refine wpAnyH_done (by kernel_rfl) ?_ _
        go_wp2_with fail
        go_meet
        case rel => exact ⟨g41, pb, qb, pc, qc, rfl, HRC, HST, hd41⟩
  case rest =>
    clear s0
    obtain ⟨gC, pb, qb, pc, qc, rfl, hrc, hst, hgc⟩ := hcut
    have HST2 := Lib.hid hst.out
    have cp := hst.out.rp.c0
    generalize hn : h.f.length = n at *
    have HN := Lib.hid hn
    clear hn
    go_wp2_with fail
    clear cp
    go_loopw [18] (fun i wr => ∃ j : Nat, j ≤ n ∧ i = .int .i64 j ∧ ∃ (pa : Option Addr) (qa : Nat), Hid (RowH wr gC (.slice pa j qa) (.slice pb h.l.length qb) (.slice pc h.r.length qc)) ∧ Hid (OwnH wr w.heap.size wr.heap.size (.slice pa j qa) (.slice pb h.l.length qb) (.slice pc h.r.length qc) ⟨h.f.take j, h.l, h.r⟩) ∧ Hid (RowH wr (w.heap.size + 1) (.slice none 0 0) (.slice none 0 0) (.slice none 0 0)) ∧ Hid (Below w.heap.size w wr) ∧ Hid (w.heap.size + 2 ≤ wr.heap.size)) (fun i _ => n - (intOf i).toNat)
    case atStart => exact ⟨0, Nat.zero_le _, rfl, none, 0, hrc, hst.out.ow, hst.out.r2, hst.out.l, hst.out.sz⟩
    case round =>
      obtain ⟨j, hj, rfl, pa, qa, hrw, how, hr2, hbw, hsz⟩ := hrel
      by_cases hlt : j < n
      · obtain ⟨fb, fo, rfl, hcf⟩ := HFA.out.at' (by omega)
        obtain ⟨u, hq, hu⟩ := hcf j hlt
        have q := cellBelow hbw.out (Nat.le_refl _) hq
        have i1 : (j : Int) < (n : Int) := by omega
        obtain ⟨ua, uc, hus⟩ := hu.shape
        have HU := Lib.hid hu
        subst hus
        have HL3 := Lib.hid (HR3.out j hlt)
        clear hcf hq hu
        have hjl : j < h.f.length := by rw [HN.out]; exact hlt
        have htk : h.f.take (j + 1) = h.f.take j ++ [h.f.getD j []] := by
          rw [List.take_succ_eq_append_getElem hjl]; simp [List.getD, List.getElem?_eq_getElem hjl]
        have hlt1 : (h.f.take j).length = j := by rw [List.length_take]; omega
        have HTK := Lib.hid htk; have HLT := Lib.hid hlt1
        have K0 : Hid (Lp w wr gC wr.heap.size (.slice pa j qa) (.slice pb h.l.length qb) (.slice pc h.r.length qc) ⟨h.f.take j, h.l, h.r⟩) := ⟨hrw.out, how.out, hr2.out, hbw.out, Nat.le_refl _, hsz.out⟩
        clear htk hlt1 hjl
        generalize h.f.getD j [] = zs at *
        have HLZ : Hid (zs.length ≤ 1048576) := by unfold Hid; have := HL3.out; omega
        generalize hzl : zs.length = zl at *
        have HZL := Lib.hid hzl
        have hn12 : n ≤ 12 := HLN.out.2.2
        clear hzl hrw how hr2 hbw
        go_wp2_with fail
        replace K0 : Hid (Lp w wr.drew gC wr.heap.size (.slice pa j qa) (.slice pb h.l.length qb) (.slice pc h.r.length qc) ⟨h.f.take j, h.l, h.r⟩) := ⟨K0.out.rw', K0.out.ow.below (below_drew (Below.refl _ _)), K0.out.r2, below_drew K0.out.l, K0.out.hi, K0.out.lo⟩
        clear q
        generalize wr.heap.size = hi0 at *
        refine wp_region_held_drew (S := (fun _ => True)) (by kernel_rfl) (trivial) (fun hHeld => ?_)
        refine wpAnyH_take (i := 0) (v := ?va0x20) rfl (by kernel_rfl) (by kernel_rfl) (by kernel_rfl) (fun _ _ _ h => h) (Or.inl ⟨by rfl, ?hy0x20⟩) (by assumption) ?rest0x20
        case hy0x20 => (intro w hSw; (try dsimp only at hSw); go_simp; try with_reducible rfl)
        (try simp only [Act.put, List.getElem_toArray, List.getElem_cons_zero, List.setIfInBounds_toArray, List.set_cons_zero, List.set_cons_succ])
        refine wpAnyH_take (i := 3) (v := ?va3x21) rfl (by kernel_rfl) (by kernel_rfl) (by kernel_rfl) (fun _ _ _ h => h) (Or.inl ⟨by rfl, ?hy3x21⟩) (by assumption) ?rest3x21
        case hy3x21 => (intro w hSw; (try dsimp only at hSw); go_simp; try with_reducible rfl)
        (try simp only [Act.put, List.getElem_toArray, List.getElem_cons_zero, List.getElem_cons_succ, List.setIfInBounds_toArray, List.set_cons_zero, List.set_cons_succ])
        generalize wr.drew = x0 at *
        refine wpAnyH_ready (rs := [1, 2]) (by kernel_rfl) (by simp) ?_
        refine AllReadyH.cons rfl (fun K hK => ?_) (AllReadyH.cons rfl (fun K hK => ?_) AllReadyH.nil)
        · skip
          clear hHeld
          have c1 := K0.out.rw'.c0
          go_simp
          refine hK.out _ _ trivial (fun hHeld => ?_)
          clear hK K c1
          (try simp only [Act.put, List.getElem_toArray, List.getElem_cons_zero, List.getElem_cons_succ, List.setIfInBounds_toArray, List.set_cons_zero, List.set_cons_succ])
          refine wpAnyH_ready (rs := [2]) (by kernel_rfl) (by simp) ?_
          refine AllReadyH.cons rfl (fun K hK => ?_) AllReadyH.nil
          clear hHeld
          have k2 := Lib.hid (K0.out.alloc (.cells #[] 3))
          have e2 := Lib.hid (show (x0.alloc (.cells #[] 3)).ownsRow hi0 3 1 (.slice (some ⟨x0.heap.size, 0, none⟩) 0 0) 0 [] from owns_mono (own_empty x0 3) (fun g hg => by cases hg; exact K0.out.hi))
          go_simp
          refine hK.out _ _ trivial (fun hHeld => ?_)
          clear hK K
          (try simp only [Act.put, List.getElem_toArray, List.getElem_cons_zero, List.getElem_cons_succ, List.setIfInBounds_toArray, List.set_cons_zero, List.set_cons_succ])
          generalize Value.slice (some ⟨x0.heap.size, 0, none⟩) 0 0 = y2 at *
          generalize x0.alloc (.cells #[] 3) = x2 at *
          clear K0
          refine wpAnyH_ready (rs := [4]) (by kernel_rfl) (by simp) ?_
          refine AllReadyH.cons rfl (fun K hK => ?_) AllReadyH.nil
          clear hHeld
          obtain ⟨y3, x3, hrun3, kk, ee⟩ := k2.out.app e2.out HU.out (by rw [HZL.out]; exact HLZ.out) 24
          have k3 := Lib.hid kk; have e3 := Lib.hid ee
          clear kk ee k2 e2
          rw [if_pos (by rfl)]
          refine op_app _ _ _ rfl rfl rfl hrun3 ?_
          refine hK.out _ _ trivial (fun hHeld => ?_)
          clear hK K hrun3
          (try simp only [Act.put, List.getElem_toArray, List.getElem_cons_zero, List.getElem_cons_succ, List.setIfInBounds_toArray, List.set_cons_zero, List.set_cons_succ])
          obtain ⟨pu3, qu3, hpu⟩ := e3.out.ints.shape
          subst hpu
          refine wpAnyH_ready (rs := [5]) (by kernel_rfl) (by simp) ?_
          refine AllReadyH.cons rfl (fun K hK => ?_) AllReadyH.nil
          clear hHeld
          have k4 := Lib.hid (k3.out.alloc (.cells #[.slice pu3 zs.length qu3] 24))
          have e4 := Lib.hid (Own.below e3.out (below1 x3 (.cells #[.slice pu3 zs.length qu3] 24)))
          have z4 : Hid (SrcAt (x3.alloc (.cells #[.slice pu3 zs.length qu3] 24)) (.slice (some ⟨x3.heap.size, 0, none⟩) 1 1) [.slice pu3 zs.length qu3]) := src_one x3 _ rfl
          go_simp
          refine hK.out _ _ trivial (fun hHeld => ?_)
          clear hK K
          (try simp only [Act.put, List.getElem_toArray, List.getElem_cons_zero, List.getElem_cons_succ, List.setIfInBounds_toArray, List.set_cons_zero, List.set_cons_succ])
          generalize Value.slice (some ⟨x3.heap.size, 0, none⟩) 1 1 = v4 at *
          generalize x3.alloc (.cells #[.slice pu3 zs.length qu3] 24) = x4 at *
          clear k3 e3
          refine wpAnyH_ready (rs := [6]) (by kernel_rfl) (by simp) ?_
          refine AllReadyH.cons rfl (fun K hK => ?_) AllReadyH.nil
          clear hHeld
          obtain ⟨y5, x5, hrun5, t1, t2, t3, t4, t5, ⟨pn, qn, hpn⟩⟩ := k4.out.grow e4.out z4.out (by simp only [HLT.out]; have := HLN.out.2.2; omega) 22
          simp only [HLT.out] at hpn
          subst hpn
          have w1 := Lib.hid t1; have w2 := Lib.hid t2; have w3 := Lib.hid t3; have w4 := Lib.hid t4; have w5 := Lib.hid t5
          clear t1 t2 t3 t4 t5 k4 e4 z4
          rw [if_pos (by rfl)]
          refine op_app _ _ _ rfl rfl rfl hrun5 ?_
          refine hK.out _ _ trivial (fun hHeld => ?_)
          clear hK K hrun5
          (try simp only [Act.put, List.getElem_toArray, List.getElem_cons_zero, List.getElem_cons_succ, List.setIfInBounds_toArray, List.set_cons_zero, List.set_cons_succ])
          refine wpAnyH_take (i := 7) (v := ?va7x22) rfl (by kernel_rfl) (by kernel_rfl) (by kernel_rfl) (fun _ _ _ h => h) (Or.inl ⟨by rfl, ?hy7x22⟩) (by assumption) ?rest7x22
          case hy7x22 => (intro w hSw; (try dsimp only at hSw); go_simp; try with_reducible rfl)
          (try simp only [Act.put, List.getElem_toArray, List.getElem_cons_zero, List.getElem_cons_succ, List.setIfInBounds_toArray, List.set_cons_zero, List.set_cons_succ])
          refine wpAnyH_ready (rs := [8]) (by kernel_rfl) (by simp) ?_
          refine AllReadyH.cons rfl (fun K hK => ?_) AllReadyH.nil
          clear hHeld
          have z0 := w1.out.c0
          have f0 := Row.frozen w1.out 0
          have v1 := Lib.hid (w1.out.set0 (.slice pn (j + 1) qn))
          have v2 := Lib.hid (w2.out.cellRow w1.out 0 (.slice pn (j + 1) qn))
          have v3 : Hid (RowH _ _ (.slice none 0 0) (.slice none 0 0) (.slice none 0 0)) := Row.other w3.out ⟨gC, 0, none⟩ (by have := hgc.out; simp; omega) (.slice pn (j + 1) qn)
          have v4 := Lib.hid (w4.out.setCell (p := ⟨gC, 0, none⟩) (by have := hgc.out; simp only; omega) (.slice pn (j + 1) qn))
          have v5 : Hid (w.heap.size + 2 ≤ (x5.setCell ⟨gC, 0, none⟩ (.slice pn (j + 1) qn)).heap.size) := by unfold Hid; rw [World.size_setCell]; exact w5.out
          go_simp
          refine hK.out _ _ trivial (fun hHeld => ?_)
          clear hK K z0 f0
          (try simp only [Act.put, List.getElem_toArray, List.getElem_cons_zero, List.getElem_cons_succ, List.setIfInBounds_toArray, List.set_cons_zero, List.set_cons_succ])
          refine wpAnyH_done (by kernel_rfl) ?_ _
          go_wp2_with fail
          go_roundw
          case rel => exact ⟨j + 1, by omega, by go_num, pn, qn, v1, (by unfold Hid; rw [HTK.out, World.size_setCell]; exact v2.out), v3, v4, v5⟩
          case measure => simp [intOf]; omega
        · skip
          clear hHeld
          have k7 := Lib.hid (K0.out.alloc (.cells #[] 3))
          have e7 := Lib.hid (show (x0.alloc (.cells #[] 3)).ownsRow hi0 3 1 (.slice (some ⟨x0.heap.size, 0, none⟩) 0 0) 0 [] from owns_mono (own_empty x0 3) (fun g hg => by cases hg; exact K0.out.hi))
          go_simp
          refine hK.out _ _ trivial (fun hHeld => ?_)
          clear hK K
          (try simp only [Act.put, List.getElem_toArray, List.getElem_cons_zero, List.getElem_cons_succ, List.setIfInBounds_toArray, List.set_cons_zero, List.set_cons_succ])
          generalize Value.slice (some ⟨x0.heap.size, 0, none⟩) 0 0 = y7 at *
          generalize x0.alloc (.cells #[] 3) = x7 at *
          clear K0
          refine wpAnyH_ready (rs := [1, 4]) (by kernel_rfl) (by simp) ?_
          refine AllReadyH.cons rfl (fun K hK => ?_) (AllReadyH.cons rfl (fun K hK => ?_) AllReadyH.nil)
          · skip
            clear hHeld
            have c8 := k7.out.rw'.c0
            go_simp
            refine hK.out _ _ trivial (fun hHeld => ?_)
            clear hK K c8
            (try simp only [Act.put, List.getElem_toArray, List.getElem_cons_zero, List.getElem_cons_succ, List.setIfInBounds_toArray, List.set_cons_zero, List.set_cons_succ])
            refine wpAnyH_ready (rs := [4]) (by kernel_rfl) (by simp) ?_
            refine AllReadyH.cons rfl (fun K hK => ?_) AllReadyH.nil
            clear hHeld
            obtain ⟨y9, x9, hrun9, kk, ee⟩ := k7.out.app e7.out HU.out (by rw [HZL.out]; exact HLZ.out) 24
            have k9 := Lib.hid kk; have e9 := Lib.hid ee
            clear kk ee k7 e7
            rw [if_pos (by rfl)]
            refine op_app _ _ _ rfl rfl rfl hrun9 ?_
            refine hK.out _ _ trivial (fun hHeld => ?_)
            clear hK K hrun9
            (try simp only [Act.put, List.getElem_toArray, List.getElem_cons_zero, List.getElem_cons_succ, List.setIfInBounds_toArray, List.set_cons_zero, List.set_cons_succ])
            obtain ⟨pu9, qu9, hpu⟩ := e9.out.ints.shape
            subst hpu
            refine wpAnyH_ready (rs := [5]) (by kernel_rfl) (by simp) ?_
            refine AllReadyH.cons rfl (fun K hK => ?_) AllReadyH.nil
            clear hHeld
            have k10 := Lib.hid (k9.out.alloc (.cells #[.slice pu9 zs.length qu9] 24))
            have e10 := Lib.hid (Own.below e9.out (below1 x9 (.cells #[.slice pu9 zs.length qu9] 24)))
            have z10 : Hid (SrcAt (x9.alloc (.cells #[.slice pu9 zs.length qu9] 24)) (.slice (some ⟨x9.heap.size, 0, none⟩) 1 1) [.slice pu9 zs.length qu9]) := src_one x9 _ rfl
            go_simp
            refine hK.out _ _ trivial (fun hHeld => ?_)
            clear hK K
            (try simp only [Act.put, List.getElem_toArray, List.getElem_cons_zero, List.getElem_cons_succ, List.setIfInBounds_toArray, List.set_cons_zero, List.set_cons_succ])
            generalize Value.slice (some ⟨x9.heap.size, 0, none⟩) 1 1 = v10 at *
            generalize x9.alloc (.cells #[.slice pu9 zs.length qu9] 24) = x10 at *
            clear k9 e9
            refine wpAnyH_ready (rs := [6]) (by kernel_rfl) (by simp) ?_
            refine AllReadyH.cons rfl (fun K hK => ?_) AllReadyH.nil
            clear hHeld
            obtain ⟨y11, x11, hrun11, t1, t2, t3, t4, t5, ⟨pn, qn, hpn⟩⟩ := k10.out.grow e10.out z10.out (by simp only [HLT.out]; have := HLN.out.2.2; omega) 22
            simp only [HLT.out] at hpn
            subst hpn
            have w1 := Lib.hid t1; have w2 := Lib.hid t2; have w3 := Lib.hid t3; have w4 := Lib.hid t4; have w5 := Lib.hid t5
            clear t1 t2 t3 t4 t5 k10 e10 z10
            rw [if_pos (by rfl)]
            refine op_app _ _ _ rfl rfl rfl hrun11 ?_
            refine hK.out _ _ trivial (fun hHeld => ?_)
            clear hK K hrun11
            (try simp only [Act.put, List.getElem_toArray, List.getElem_cons_zero, List.getElem_cons_succ, List.setIfInBounds_toArray, List.set_cons_zero, List.set_cons_succ])
            refine wpAnyH_take (i := 7) (v := ?va7x23) rfl (by kernel_rfl) (by kernel_rfl) (by kernel_rfl) (fun _ _ _ h => h) (Or.inl ⟨by rfl, ?hy7x23⟩) (by assumption) ?rest7x23
            case hy7x23 => (intro w hSw; (try dsimp only at hSw); go_simp; try with_reducible rfl)
            (try simp only [Act.put, List.getElem_toArray, List.getElem_cons_zero, List.getElem_cons_succ, List.setIfInBounds_toArray, List.set_cons_zero, List.set_cons_succ])
            refine wpAnyH_ready (rs := [8]) (by kernel_rfl) (by simp) ?_
            refine AllReadyH.cons rfl (fun K hK => ?_) AllReadyH.nil
            clear hHeld
            have z0 := w1.out.c0
            have f0 := Row.frozen w1.out 0
            have v1 := Lib.hid (w1.out.set0 (.slice pn (j + 1) qn))
            have v2 := Lib.hid (w2.out.cellRow w1.out 0 (.slice pn (j + 1) qn))
            have v3 : Hid (RowH _ _ (.slice none 0 0) (.slice none 0 0) (.slice none 0 0)) := Row.other w3.out ⟨gC, 0, none⟩ (by have := hgc.out; simp; omega) (.slice pn (j + 1) qn)
            have v4 := Lib.hid (w4.out.setCell (p := ⟨gC, 0, none⟩) (by have := hgc.out; simp only; omega) (.slice pn (j + 1) qn))
            have v5 : Hid (w.heap.size + 2 ≤ (x11.setCell ⟨gC, 0, none⟩ (.slice pn (j + 1) qn)).heap.size) := by unfold Hid; rw [World.size_setCell]; exact w5.out
            go_simp
            refine hK.out _ _ trivial (fun hHeld => ?_)
            clear hK K z0 f0
            (try simp only [Act.put, List.getElem_toArray, List.getElem_cons_zero, List.getElem_cons_succ, List.setIfInBounds_toArray, List.set_cons_zero, List.set_cons_succ])
            refine wpAnyH_done (by kernel_rfl) ?_ _
            go_wp2_with fail
            go_roundw
            case rel => exact ⟨j + 1, by omega, by go_num, pn, qn, v1, (by unfold Hid; rw [HTK.out, World.size_setCell]; exact v2.out), v3, v4, v5⟩
            case measure => simp [intOf]; omega
          · skip
            clear hHeld
            obtain ⟨y13, x13, hrun13, kk, ee⟩ := k7.out.app e7.out HU.out (by rw [HZL.out]; exact HLZ.out) 24
            have k13 := Lib.hid kk; have e13 := Lib.hid ee
            clear kk ee k7 e7
            rw [if_pos (by rfl)]
            refine op_app _ _ _ rfl rfl rfl hrun13 ?_
            refine hK.out _ _ trivial (fun hHeld => ?_)
            clear hK K hrun13
            (try simp only [Act.put, List.getElem_toArray, List.getElem_cons_zero, List.getElem_cons_succ, List.setIfInBounds_toArray, List.set_cons_zero, List.set_cons_succ])
            obtain ⟨pu13, qu13, hpu⟩ := e13.out.ints.shape
            subst hpu
            refine wpAnyH_ready (rs := [1, 5]) (by kernel_rfl) (by simp) ?_
            refine AllReadyH.cons rfl (fun K hK => ?_) (AllReadyH.cons rfl (fun K hK => ?_) AllReadyH.nil)
            · skip
              clear hHeld
              have c14 := k13.out.rw'.c0
              go_simp
              refine hK.out _ _ trivial (fun hHeld => ?_)
              clear hK K c14
              (try simp only [Act.put, List.getElem_toArray, List.getElem_cons_zero, List.getElem_cons_succ, List.setIfInBounds_toArray, List.set_cons_zero, List.set_cons_succ])
              refine wpAnyH_ready (rs := [5]) (by kernel_rfl) (by simp) ?_
              refine AllReadyH.cons rfl (fun K hK => ?_) AllReadyH.nil
              clear hHeld
              have k15 := Lib.hid (k13.out.alloc (.cells #[.slice pu13 zs.length qu13] 24))
              have e15 := Lib.hid (Own.below e13.out (below1 x13 (.cells #[.slice pu13 zs.length qu13] 24)))
              have z15 : Hid (SrcAt (x13.alloc (.cells #[.slice pu13 zs.length qu13] 24)) (.slice (some ⟨x13.heap.size, 0, none⟩) 1 1) [.slice pu13 zs.length qu13]) := src_one x13 _ rfl
              go_simp
              refine hK.out _ _ trivial (fun hHeld => ?_)
              clear hK K
              (try simp only [Act.put, List.getElem_toArray, List.getElem_cons_zero, List.getElem_cons_succ, List.setIfInBounds_toArray, List.set_cons_zero, List.set_cons_succ])
              generalize Value.slice (some ⟨x13.heap.size, 0, none⟩) 1 1 = v15 at *
              generalize x13.alloc (.cells #[.slice pu13 zs.length qu13] 24) = x15 at *
              clear k13 e13
              refine wpAnyH_ready (rs := [6]) (by kernel_rfl) (by simp) ?_
              refine AllReadyH.cons rfl (fun K hK => ?_) AllReadyH.nil
              clear hHeld
              obtain ⟨y16, x16, hrun16, t1, t2, t3, t4, t5, ⟨pn, qn, hpn⟩⟩ := k15.out.grow e15.out z15.out (by simp only [HLT.out]; have := HLN.out.2.2; omega) 22
              simp only [HLT.out] at hpn
              subst hpn
              have w1 := Lib.hid t1; have w2 := Lib.hid t2; have w3 := Lib.hid t3; have w4 := Lib.hid t4; have w5 := Lib.hid t5
              clear t1 t2 t3 t4 t5 k15 e15 z15
              rw [if_pos (by rfl)]
              refine op_app _ _ _ rfl rfl rfl hrun16 ?_
              refine hK.out _ _ trivial (fun hHeld => ?_)
              clear hK K hrun16
              (try simp only [Act.put, List.getElem_toArray, List.getElem_cons_zero, List.getElem_cons_succ, List.setIfInBounds_toArray, List.set_cons_zero, List.set_cons_succ])
              refine wpAnyH_take (i := 7) (v := ?va7x24) rfl (by kernel_rfl) (by kernel_rfl) (by kernel_rfl) (fun _ _ _ h => h) (Or.inl ⟨by rfl, ?hy7x24⟩) (by assumption) ?rest7x24
              case hy7x24 => (intro w hSw; (try dsimp only at hSw); go_simp; try with_reducible rfl)
              (try simp only [Act.put, List.getElem_toArray, List.getElem_cons_zero, List.getElem_cons_succ, List.setIfInBounds_toArray, List.set_cons_zero, List.set_cons_succ])
              refine wpAnyH_ready (rs := [8]) (by kernel_rfl) (by simp) ?_
              refine AllReadyH.cons rfl (fun K hK => ?_) AllReadyH.nil
              clear hHeld
              have z0 := w1.out.c0
              have f0 := Row.frozen w1.out 0
              have v1 := Lib.hid (w1.out.set0 (.slice pn (j + 1) qn))
              have v2 := Lib.hid (w2.out.cellRow w1.out 0 (.slice pn (j + 1) qn))
              have v3 : Hid (RowH _ _ (.slice none 0 0) (.slice none 0 0) (.slice none 0 0)) := Row.other w3.out ⟨gC, 0, none⟩ (by have := hgc.out; simp; omega) (.slice pn (j + 1) qn)
              have v4 := Lib.hid (w4.out.setCell (p := ⟨gC, 0, none⟩) (by have := hgc.out; simp only; omega) (.slice pn (j + 1) qn))
              have v5 : Hid (w.heap.size + 2 ≤ (x16.setCell ⟨gC, 0, none⟩ (.slice pn (j + 1) qn)).heap.size) := by unfold Hid; rw [World.size_setCell]; exact w5.out
              go_simp
              refine hK.out _ _ trivial (fun hHeld => ?_)
              clear hK K z0 f0
              (try simp only [Act.put, List.getElem_toArray, List.getElem_cons_zero, List.getElem_cons_succ, List.setIfInBounds_toArray, List.set_cons_zero, List.set_cons_succ])
              refine wpAnyH_done (by kernel_rfl) ?_ _
              go_wp2_with fail
              go_roundw
              case rel => exact ⟨j + 1, by omega, by go_num, pn, qn, v1, (by unfold Hid; rw [HTK.out, World.size_setCell]; exact v2.out), v3, v4, v5⟩
              case measure => simp [intOf]; omega
            · skip
              clear hHeld
              have k18 := Lib.hid (k13.out.alloc (.cells #[.slice pu13 zs.length qu13] 24))
              have e18 := Lib.hid (Own.below e13.out (below1 x13 (.cells #[.slice pu13 zs.length qu13] 24)))
              have z18 : Hid (SrcAt (x13.alloc (.cells #[.slice pu13 zs.length qu13] 24)) (.slice (some ⟨x13.heap.size, 0, none⟩) 1 1) [.slice pu13 zs.length qu13]) := src_one x13 _ rfl
              go_simp
              refine hK.out _ _ trivial (fun hHeld => ?_)
              clear hK K
              (try simp only [Act.put, List.getElem_toArray, List.getElem_cons_zero, List.getElem_cons_succ, List.setIfInBounds_toArray, List.set_cons_zero, List.set_cons_succ])
              generalize Value.slice (some ⟨x13.heap.size, 0, none⟩) 1 1 = v18 at *
              generalize x13.alloc (.cells #[.slice pu13 zs.length qu13] 24) = x18 at *
              clear k13 e13
              refine wpAnyH_ready (rs := [1]) (by kernel_rfl) (by simp) ?_
              refine AllReadyH.cons rfl (fun K hK => ?_) AllReadyH.nil
              clear hHeld
              have c19 := k18.out.rw'.c0
              go_simp
              refine hK.out _ _ trivial (fun hHeld => ?_)
              clear hK K c19
              (try simp only [Act.put, List.getElem_toArray, List.getElem_cons_zero, List.getElem_cons_succ, List.setIfInBounds_toArray, List.set_cons_zero, List.set_cons_succ])
              refine wpAnyH_ready (rs := [6]) (by kernel_rfl) (by simp) ?_
              refine AllReadyH.cons rfl (fun K hK => ?_) AllReadyH.nil
              clear hHeld
              obtain ⟨y20, x20, hrun20, t1, t2, t3, t4, t5, ⟨pn, qn, hpn⟩⟩ := k18.out.grow e18.out z18.out (by simp only [HLT.out]; have := HLN.out.2.2; omega) 22
              simp only [HLT.out] at hpn
              subst hpn
              have w1 := Lib.hid t1; have w2 := Lib.hid t2; have w3 := Lib.hid t3; have w4 := Lib.hid t4; have w5 := Lib.hid t5
              clear t1 t2 t3 t4 t5 k18 e18 z18
              rw [if_pos (by rfl)]
              refine op_app _ _ _ rfl rfl rfl hrun20 ?_
              refine hK.out _ _ trivial (fun hHeld => ?_)
              clear hK K hrun20
              (try simp only [Act.put, List.getElem_toArray, List.getElem_cons_zero, List.getElem_cons_succ, List.setIfInBounds_toArray, List.set_cons_zero, List.set_cons_succ])
              refine wpAnyH_take (i := 7) (v := ?va7x25) rfl (by kernel_rfl) (by kernel_rfl) (by kernel_rfl) (fun _ _ _ h => h) (Or.inl ⟨by rfl, ?hy7x25⟩) (by assumption) ?rest7x25
              case hy7x25 => (intro w hSw; (try dsimp only at hSw); go_simp; try with_reducible rfl)
              (try simp only [Act.put, List.getElem_toArray, List.getElem_cons_zero, List.getElem_cons_succ, List.setIfInBounds_toArray, List.set_cons_zero, List.set_cons_succ])
              refine wpAnyH_ready (rs := [8]) (by kernel_rfl) (by simp) ?_
              refine AllReadyH.cons rfl (fun K hK => ?_) AllReadyH.nil
              clear hHeld
              have z0 := w1.out.c0
              have f0 := Row.frozen w1.out 0
              have v1 := Lib.hid (w1.out.set0 (.slice pn (j + 1) qn))
              have v2 := Lib.hid (w2.out.cellRow w1.out 0 (.slice pn (j + 1) qn))
              have v3 : Hid (RowH _ _ (.slice none 0 0) (.slice none 0 0) (.slice none 0 0)) := Row.other w3.out ⟨gC, 0, none⟩ (by have := hgc.out; simp; omega) (.slice pn (j + 1) qn)
              have v4 := Lib.hid (w4.out.setCell (p := ⟨gC, 0, none⟩) (by have := hgc.out; simp only; omega) (.slice pn (j + 1) qn))
              have v5 : Hid (w.heap.size + 2 ≤ (x20.setCell ⟨gC, 0, none⟩ (.slice pn (j + 1) qn)).heap.size) := by unfold Hid; rw [World.size_setCell]; exact w5.out
              go_simp
              refine hK.out _ _ trivial (fun hHeld => ?_)
              clear hK K z0 f0
              (try simp only [Act.put, List.getElem_toArray, List.getElem_cons_zero, List.getElem_cons_succ, List.setIfInBounds_toArray, List.set_cons_zero, List.set_cons_succ])
              refine wpAnyH_done (by kernel_rfl) ?_ _
              go_wp2_with fail
              go_roundw
              case rel => exact ⟨j + 1, by omega, by go_num, pn, qn, v1, (by unfold Hid; rw [HTK.out, World.size_setCell]; exact v2.out), v3, v4, v5⟩
              case measure => simp [intOf]; omega
      · obtain rfl : j = n := by omega
        have HE : Hid (h.f.take j = h.f) := List.take_of_length_le (by rw [HN.out]; exact Nat.le_refl _)
        have H2 : Hid (OwnH wr w.heap.size wr.heap.size (.slice pa j qa) (.slice pb h.l.length qb) (.slice pc h.r.length qc) h) := by
          have := how.out
          rw [HE.out] at this
          exact this
        clear how
        generalize h.l.length = nl at *
        generalize h.r.length = nr at *
        go_wp2_with (first
          | (refine wl_loadH rfl _ rfl gC _ _ _ hrw.out rfl ?_)
          | (refine wl_storeH rfl _ _ rfl (w.heap.size + 1) (.slice pa j qa) (.slice pb nl qb) (.slice pc nr qc) _ _ _ hr2.out rfl rfl rfl rfl rfl ?_))
        refine bodyPost_ret (res_row Try.results92 (Row.put hr2.out (c3 (.slice pa j qa) (.slice pb nl qb) (.slice pc nr qc))) rfl Try.underlying30 rfl info_heap) rfl ⟨_, _, _, rfl, ?_, below_setRow hbw.out (by omega) _⟩
        rw [size_setRow]
        exact H2.out.wholeRow hr2.out _
end Go.Proofs.Ytkkigoamphkalaa
namespace Go.Proofs.Ytkkigoamphkalaa
open Go.RowKit Ph
theorem s_l5Own (a b c : Value) (h : H) (w : World) (hA : HeapAt w a b c h) (hG : Ph.Good h) : Calls Try.prog 92 #[hv a b c] w fun e w' => ∃ a' b' c', e = .returned (hv a' b' c') ∧ OwnH w' w.heap.size w'.heap.size a' b' c' h ∧ Below w.heap.size w w' :=
  s_l5OwnS a b c h w hA (by obtain ⟨_, h1, h2, h3, h4⟩ := good_wt hG; exact ⟨h1, h2, h3, h4⟩)
end Go.Proofs.Ytkkigoamphkalaa
namespace Go.Proofs.Ytkkigoamphkalaa.Ph
theorem set_last {α : Type} (l : List α) (x y : α) : (l ++ [x]).set l.length y = l ++ [y] := by
  rw [List.set_append_right _ _ (Nat.le_refl _), Nat.sub_self, List.set_cons_zero]
theorem newS_yes {h : H} {m : Nat} (g : Good h) (hok : newOk h (m : Int) = true) : newS h m = ((newP h (m : Int)).1, (((newP h (m : Int)).2 : Nat) : Int)) := by
  rw [newP_yes hok, Int.toNat_natCast]
  have hle := place_le h.l
  have hll := g.ll
  unfold newOk at hok
  simp only [Bool.and_eq_true, decide_eq_true_eq] at hok
  have h12 := hok.2
  unfold newS grown1
  by_cases hp : placeOf h.l < h.l.length
  · rw [if_pos hp, if_pos hp]
  · have hpe : placeOf h.l = h.l.length := by omega
    rw [if_neg hp, if_neg hp, if_neg (by omega)]
    unfold put1
    simp only
    have e1 : (h.f ++ [[]]).set (placeOf h.l) (List.replicate m (-1)) = h.f ++ [List.replicate m (-1)] := by rw [hpe, hll]; exact set_last _ _ _
    have e2 : (h.l ++ [false]).set (placeOf h.l) true = h.l ++ [true] := by rw [hpe]; exact set_last _ _ _
    rw [e1, e2, hpe, hll]
theorem newS_no {h : H} {m : Nat} (g : Good h) (hm : m ≤ 3) (hok : newOk h (m : Int) = false) : (newS h m).2 = -1 := by
  have hle := place_le h.l
  have hll := g.ll
  have hn := g.n
  have h12 : ¬ placeOf h.l < 12 := fun q => by
    have : newOk h (m : Int) = true := by
      unfold newOk
      rw [good_iff.2 g, decide_eq_true (show (0 : Int) ≤ (m : Int) by omega), decide_eq_true (show (m : Int) ≤ 3 by omega), decide_eq_true q]; rfl
    rw [hok] at this; cases this
  unfold newS
  rw [if_neg (by omega), if_pos (by omega)]
theorem newP_wt (h : H) (m : Int) : wtH (newP h m).1 ≤ 1000 := by
  cases hok : newOk h m with
  | false => rw [newP_no hok]; exact nil_wt
  | true =>
    have hok' := hok
    unfold newOk at hok'
    simp only [Bool.and_eq_true, decide_eq_true_eq] at hok'
    have g := good_iff.1 hok'.1.1.1
    have h12 := hok'.2
    have hm := hok'.1.2
    have hm0 := hok'.1.1.2
    rw [newP_yes hok]
    have hll := g.ll
    have hn := g.n
    have hgl : (grown1 h).f.length ≤ 12 ∧ (grown1 h).l.length ≤ 12 ∧ (grown1 h).r.length ≤ 4 ∧ ∀ i, ((grown1 h).f.getD i []).length ≤ 3 := by
      have hrow : ∀ i, (h.f.getD i []).length ≤ 3 := fun i => by
        by_cases hi : i < h.f.length
        · exact (g.row i hi).1
        · simp [List.getD, List.getElem?_eq_none (Nat.le_of_not_lt hi)]
      unfold grown1
      split
      · exact ⟨hn, by omega, g.rn, hrow⟩
      · next q =>
        have := place_le h.l
        refine ⟨by simp; omega, by simp; omega, g.rn, fun i => ?_⟩
        by_cases hi : i < h.f.length
        · have := hrow i
          simpa [List.getD, List.getElem?_append_left hi] using this
        · by_cases hi2 : i = h.f.length
          · subst hi2; simp [List.getD]
          · have : (h.f ++ [([] : List Int)])[i]? = none := List.getElem?_eq_none (by simp; omega)
            simp [List.getD, this]
    refine small_wt (h := put1 (grown1 h) (placeOf h.l) m.toNat) (by unfold put1; simp only [List.length_set]; exact hgl.1) (fun i hi => ?_) (by unfold put1; simp only [List.length_set]; exact hgl.2.1) hgl.2.2.1
    unfold put1
    simp only
    by_cases hi : placeOf h.l < (grown1 h).f.length
    · rw [getD_setL hi]
      split
      · simp; omega
      · exact hgl.2.2.2 i
    · rw [List.set_eq_of_length_le (by omega)]; exact hgl.2.2.2 i
end Go.Proofs.Ytkkigoamphkalaa.Ph
namespace Go.Proofs.Ytkkigoamphkalaa
open Go.RowKit Ph

set_option maxRecDepth 100000 in
set_option maxHeartbeats 6400000 in
theorem s_NewThing (a b c : Value) (h : H) (m : Int) (w : World) (hA : HeapAt w a b c h) : Calls Try.prog 63 #[hv a b c, .int .i64 m] w (EndHI (newP h m).1 ((newP h m).2 : Int) (newOk h m) w) := by
  have hb0 := (below1 w (.cells (c3 a b c) 30)).alloc (by simp) (.cells (c3 (.slice none 0 0) (.slice none 0 0) (.slice none 0 0)) 30)
  have A0 := Lib.hid (hA.below hb0)
  have HB := Lib.hid hb0
  have P0 := Lib.hid (show RowH _ _ a b c from (Row.new w 30 (c3 a b c)).alloc (.cells (c3 (.slice none 0 0) (.slice none 0 0) (.slice none 0 0)) 30))
  have R0 := Lib.hid (show RowH _ (w.heap.size + 1) (.slice none 0 0) (.slice none 0 0) (.slice none 0 0) from Row.new1 w (.cells (c3 a b c) 30) 30 (c3 (.slice none 0 0) (.slice none 0 0) (.slice none 0 0)))
  clear hA hb0
  have HC := Lib.hid (s_GoodHeap a b c h _ A0.out)
  have G1 := Lib.hid (good_iff (h := h)).1
  have E1 := Lib.hid (newP_no (h := h) (m := m))
  have HIN : Hid (∀ w', Calls Try.prog 126 #[.int .i64 m, .int .i64 0, .int .i64 3] w' fun e w'' => e = .returned (.bool (inB 0 3 m)) ∧ w' = w'') := fun w' => s_l1In m 0 3 w'
  have hok : newOk h m = (good h && decide (0 ≤ m) && decide (m ≤ 3) && decide (placeOf h.l < 12)) := rfl
  have HI3 := Lib.hid (inB_iff (lo := 0) (hi := 3) (z := m)).1
  have hi3 : inB 0 3 m = (decide (0 ≤ m) && decide (m ≤ 3)) := rfl
  have HOK := Lib.hid hok
  generalize hg : good h = x at *
  have p0 := P0.out.c0
  have p1 := P0.out.c1
  have p2 := P0.out.c2
  cases x
  · have HE : Hid (newOk h m = false) := by unfold Hid; rw [hok]; rfl
    clear hok hi3 HOK HI3 G1 hg
    go_enter Try.func63, Try.ntmps63
    go_wp2_with (first
      | (go_at_call 80; refine HC.out.mono ?_; rintro e w1 ⟨rfl, hb1⟩; have B1 := Lib.hid (bst HB.out hb1 HB.out.size); have A1 := Lib.hid (A0.out.below hb1); have P1 := Lib.hid (P0.out.below hb1); have R1 := Lib.hid (R0.out.below hb1); have d10 := P1.out.c0; have d11 := P1.out.c1; have d12 := P1.out.c2; clear hb1)
      | (refine wl_storeH rfl _ _ rfl (w.heap.size + 1) (.slice none 0 0) (.slice none 0 0) (.slice none 0 0) _ _ _ R1.out rfl rfl rfl rfl rfl ?_))
    refine bodyPost_ret (res_row_slot2 Try.results63 (Row.put R1.out (c3 (.slice none 0 0) (.slice none 0 0) (.slice none 0 0))) rfl rfl rfl Try.underlying30 rfl info_heap) rfl (endHI_no (below_setRow B1.out (by omega) _) (by rw [E1.out HE.out]) (by rw [E1.out HE.out]; rfl) HE.out)
  have G := Lib.hid (G1.out rfl)
  clear G1 hg
  generalize hy : inB 0 3 m = y at *
  cases y
  · have HE : Hid (newOk h m = false) := by unfold Hid; rw [hok, Bool.true_and, ← hi3]; rfl
    clear hok hi3 HOK HI3 hy
    go_enter Try.func63, Try.ntmps63
    go_wp2_with (first
      | (go_at_call 80; refine HC.out.mono ?_; rintro e w1 ⟨rfl, hb1⟩; have B1 := Lib.hid (bst HB.out hb1 HB.out.size); have A1 := Lib.hid (A0.out.below hb1); have P1 := Lib.hid (P0.out.below hb1); have R1 := Lib.hid (R0.out.below hb1); have d10 := P1.out.c0; have d11 := P1.out.c1; have d12 := P1.out.c2; clear hb1)
      | (go_at_call 126; refine (HIN.out _).mono ?_; rintro e w2 ⟨rfl, rfl⟩)
      | (refine wl_storeH rfl _ _ rfl (w.heap.size + 1) (.slice none 0 0) (.slice none 0 0) (.slice none 0 0) _ _ _ R1.out rfl rfl rfl rfl rfl ?_))
    refine bodyPost_ret (res_row_slot2 Try.results63 (Row.put R1.out (c3 (.slice none 0 0) (.slice none 0 0) (.slice none 0 0))) rfl rfl rfl Try.underlying30 rfl info_heap) rfl (endHI_no (below_setRow B1.out (by omega) _) (by rw [E1.out HE.out]) (by rw [E1.out HE.out]; rfl) HE.out)
  obtain ⟨m0, m3⟩ := HI3.out rfl
  obtain ⟨mm, rfl⟩ : ∃ k : Nat, m = k := ⟨m.toNat, by omega⟩
  have hmm : mm ≤ 3 := by omega
  have HMM := Lib.hid hmm
  have HYES := Lib.hid (newS_yes (m := mm) G.out)
  have HNO := Lib.hid (newS_no (m := mm) G.out hmm)
  clear hok hi3 HOK HI3 hy m0 m3 hmm
  generalize hz : newOk h (mm : Int) = z at *
  have HZ := Lib.hid hz; clear hz
  go_enter Try.func63, Try.ntmps63
  go_wp2_with (first
    | (go_at_call 80; refine HC.out.mono ?_; rintro e w1 ⟨rfl, hb1⟩; have B1 := Lib.hid (bst HB.out hb1 HB.out.size); have A1 := Lib.hid (A0.out.below hb1); have P1 := Lib.hid (P0.out.below hb1); have R1 := Lib.hid (R0.out.below hb1); have d10 := P1.out.c0; have d11 := P1.out.c1; have d12 := P1.out.c2; clear hb1)
    | (go_at_call 126; refine (HIN.out _).mono ?_; rintro e w2 ⟨rfl, rfl⟩))
  refine (s_l5Own a b c h _ A1.out G.out).mono ?_
  rintro e w3 ⟨a3, b3, c3', rfl, ho3, hb3⟩
  have B3 := Lib.hid (bst B1.out hb3 B1.out.size)
  have O3 := Lib.hid ho3
  have R3 := Lib.hid (R1.out.below hb3)
  have S3 : Hid (w1.heap.size ≤ w3.heap.size) := hb3.size
  clear ho3 hb3 d10 d11 d12 p0 p1 p2
  go_wp2_with fail
  refine (s_l5New a3 b3 c3' h mm w1.heap.size w3.heap.size w3 O3.out S3.out (Nat.le_refl _) G.out.n G.out.ll HMM.out).mono ?_
  rintro e w4 ⟨a4, b4, c4', rfl, ho4, hb4, hrw4⟩
  obtain ⟨⟨pa, qa, rfl⟩, ⟨pb, qb, rfl⟩, ⟨pc, qc, rfl⟩⟩ := ho4.shapes
  have B4 := Lib.hid (B3.out.trans (hb4.mono B1.out.size))
  have R4 := Lib.hid (show RowH _ _ _ _ _ from hrw4 _ _ R3.out)
  have O4 := Lib.hid ho4
  clear ho4 hb4 hrw4
  cases z
  · have HNP := Lib.hid (E1.out rfl)
    rw [HNO.out rfl]
    clear HYES HNO E1
    generalize (newS h mm).1 = hN at *
    generalize hN.f.length = na at *
    generalize hN.l.length = nb at *
    generalize hN.r.length = nc at *
    have R5 := Lib.hid (show RowH _ _ _ _ _ from Row.alloc R4.out (.cells (c3 (.slice pa na qa) (.slice pb nb qb) (.slice pc nc qc)) 30))
    have B5 := Lib.hid (B4.out.alloc B4.out.size (.cells (c3 (.slice pa na qa) (.slice pb nb qb) (.slice pc nc qc)) 30))
    go_wp2_with (refine wl_storeH rfl _ _ rfl (w.heap.size + 1) (.slice none 0 0) (.slice none 0 0) (.slice none 0 0) _ _ _ R5.out rfl rfl rfl rfl rfl ?_)
    refine bodyPost_ret (res_row_slot2 Try.results63 (Row.put R5.out (c3 (.slice none 0 0) (.slice none 0 0) (.slice none 0 0))) rfl rfl rfl Try.underlying30 rfl info_heap) rfl (endHI_no (below_setRow B5.out (by omega) _) (by rw [HNP.out]) (by rw [HNP.out]; rfl) rfl)
  · have hns := HYES.out rfl
    have hn2 : (newS h mm).2 = (((newP h (mm : Int)).2 : Nat) : Int) := by rw [hns]
    rw [hn2]
    clear hn2
    have HN1 : Hid ((newS h mm).1 = (newP h (mm : Int)).1) := by unfold Hid; rw [hns]
    clear HYES HNO hns
    generalize (newS h mm).1 = hN at *
    generalize (newP h (mm : Int)).2 = kk at *
    generalize hN.f.length = na at *
    generalize hN.l.length = nb at *
    generalize hN.r.length = nc at *
    have hk0 : ¬ (kk : Int) < 0 := by omega
    have R5 := Lib.hid (show RowH _ _ _ _ _ from Row.alloc R4.out (.cells (c3 (.slice pa na qa) (.slice pb nb qb) (.slice pc nc qc)) 30))
    have V5 := Lib.hid (show RowH _ _ _ _ _ from Row.new w4 30 (c3 (.slice pa na qa) (.slice pb nb qb) (.slice pc nc qc)))
    have B5 := Lib.hid (B4.out.alloc B4.out.size (.cells (c3 (.slice pa na qa) (.slice pb nb qb) (.slice pc nc qc)) 30))
    have O5 := Lib.hid (O4.out.below (below1 w4 (.cells (c3 (.slice pa na qa) (.slice pb nb qb) (.slice pc nc qc)) 30)))
    have S5 : Hid (w4.heap.size ≤ (w4.alloc (.cells (c3 (.slice pa na qa) (.slice pb nb qb) (.slice pc nc qc)) 30)).heap.size) := by unfold Hid; simp
    go_wp2_with (first
      | (refine wl_loadH rfl _ rfl w4.heap.size _ _ _ V5.out rfl ?_)
      | (refine wl_storeH rfl _ _ rfl (w.heap.size + 1) (.slice pa na qa) (.slice pb nb qb) (.slice pc nc qc) _ _ _ R5.out rfl rfl rfl rfl rfl ?_))
    refine bodyPost_ret (res_row_slot2 Try.results63 (Row.put R5.out (c3 (.slice pa na qa) (.slice pb nb qb) (.slice pc nc qc))) rfl rfl rfl Try.underlying30 rfl info_heap) rfl (endHI_yes (below_setRow B5.out (by omega) _) (O5.out.wholeRow R5.out (c3 (.slice pa na qa) (.slice pb nb qb) (.slice pc nc qc))) B1.out.size (by rw [size_setRow]; exact S5.out) HN1.out.symm (show (kk : Int) = (kk : Int) from rfl) rfl)
end Go.Proofs.Ytkkigoamphkalaa
namespace Go.Proofs.Ytkkigoamphkalaa
open Go.RowKit Ph

set_option maxHeartbeats 1600000 in
theorem s_l5Thing (a b c : Value) (h : H) (z : Int) (w : World) (hA : HeapAt w a b c h) (hG : Ph.Good h) : Calls Try.prog 125 #[hv a b c, .int .i64 z] w fun e w' => e = .returned (.bool (liveB h.l z)) ∧ Below w.heap.size w w' := by
  have hb0 := below1 w (.cells (c3 a b c) 30)
  have A0 := Lib.hid (hA.below hb0)
  have HB := Lib.hid hb0
  obtain ⟨fa, fc, rfl⟩ := hA.f.shape
  obtain ⟨la, lc, rfl⟩ := hA.l.shape
  have hll := hG.ll
  have hn := hG.n
  have hlt := liveB_lt (l := h.l) (z := z)
  have hex : ∀ k : Nat, z = k → liveB h.l z = h.l.getD k false := fun k e => by subst e; unfold liveB; rw [decide_eq_true (by omega)]; simp
  clear hA hG hb0
  rw [hll] at A0 HB hlt ⊢
  generalize h.f.length = n at *
  by_cases h0 : 0 ≤ z ∧ z ≤ (n : Int) - 1
  · obtain ⟨k, rfl⟩ : ∃ k : Nat, z = k := ⟨z.toNat, by omega⟩
    have HIN : Hid (∀ w', Calls Try.prog 126 #[.int .i64 k, .int .i64 0, .int .i64 ((n : Int) - 1)] w' fun e w'' => e = .returned (.bool true) ∧ w' = w'') := fun w' => s_l1In_yes k 0 _ w' h0.1 h0.2
    obtain ⟨gl, ol, rfl, hcl⟩ := A0.out.l.at' (by omega)
    have q := hcl k (by omega)
    rw [← hex k rfl] at q
    generalize liveB h.l (k : Int) = x at *
    have i1 : (k : Int) < (n : Int) := by omega
    clear hcl hex hlt h0
    go_enter Try.func125, Try.ntmps125
    go_wp2_with (go_at_call 126; refine (HIN.out _).mono ?_; rintro e wi ⟨rfl, rfl⟩)
    go_ret
    exact ⟨rfl, HB.out⟩
  · have HIN : Hid (∀ w', Calls Try.prog 126 #[.int .i64 z, .int .i64 0, .int .i64 ((n : Int) - 1)] w' fun e w'' => e = .returned (.bool false) ∧ w' = w'') := fun w' => s_l1In_no z 0 _ w' (by omega)
    have HE : Hid (liveB h.l z = false) := by
      unfold Hid
      cases hq : liveB h.l z with
      | false => rfl
      | true => have := hlt hq; omega
    clear hex hlt h0
    go_enter Try.func125, Try.ntmps125
    go_wp2_with (go_at_call 126; refine (HIN.out _).mono ?_; rintro e wi ⟨rfl, rfl⟩)
    go_ret
    exact ⟨r_b HE.out.symm, HB.out⟩
end Go.Proofs.Ytkkigoamphkalaa
