/- Lists of runs in the order of their first pages as maps: what is looked up, stored and struck. -/
import Derived.Test.YtdiejmebodpjeaaPr
import Derived.Maps.OwnSet
namespace Go.Proofs.Ytdiejmebodpjeaa.Pr
open Go.Maps

def delR (k : Int) (rs : List R) : List R := rs.filter fun r => !decide (r.1 = k)
def insR (x : R) : List R → List R
  | [] => [x]
  | y :: t => if x.1 < y.1 then x :: y :: t else y :: insR x t
def putR (k v : Int) (rs : List R) : List R := insR (k, v) (delR k rs)
def lookR (k : Int) (rs : List R) : Option Int := (rs.find? fun r => decide (r.1 = k)).map (·.2)
abbrev SortK (rs : List R) : Prop := rs.Pairwise fun a b => a.1 < b.1

section
variable {H : Type}
def ent (r : R) : Lit × DataW H := (.int .i64 r.1, .lit (.int .i64 r.2))
def mapD (H : Type) (rs : List R) : DataW H := .map (rs.map ent)
theorem same_ent (r : R) (k : Int) : (ent (H := H) r).1.sameKey (.int .i64 k) = decide (r.1 = k) := by simp [ent, Lit.sameKey]
theorem filter_ent (k : Int) (rs : List R) : (rs.map (ent (H := H))).filter (fun p => !p.1.sameKey (.int .i64 k)) = (delR k rs).map ent := by
  rw [List.filter_map]
  congr 1
  unfold delR
  congr 1
  funext r
  simp only [Function.comp, same_ent]
theorem del_mapD (k : Int) (rs : List R) : (mapD H rs).del (.int .i64 k) = mapD H (delR k rs) := by
  show DataW.map _ = DataW.map _
  rw [filter_ent]
theorem insert_ent (x : R) : ∀ rs : List R, DataW.insert (ent (H := H) x) (rs.map ent) = (insR x rs).map ent
  | [] => rfl
  | y :: t => by
    have e : (ent (H := H) x).1.before (ent (H := H) y).1 = decide (x.1 < y.1) := rfl
    unfold insR
    rw [List.map_cons]
    unfold DataW.insert
    rw [e]
    by_cases h : x.1 < y.1
    · simp [h]
    · simp [h, insert_ent x t]
theorem put_mapD (k v : Int) (rs : List R) : (mapD H rs).put (.int .i64 k) (.lit (.int .i64 v)) = mapD H (putR k v rs) := by
  show DataW.map _ = DataW.map _
  rw [filter_ent]
  exact congrArg _ (insert_ent (k, v) _)
theorem find_ent (k : Int) (rs : List R) : (rs.map (ent (H := H))).find? (fun p => p.1.sameKey (.int .i64 k)) = (rs.find? fun r => decide (r.1 = k)).map ent := by
  rw [List.find?_map]
  have : ((fun p : Lit × DataW H => p.1.sameKey (.int .i64 k)) ∘ ent) = fun r => decide (r.1 = k) := by funext r; simp only [Function.comp, same_ent]
  rw [this]
theorem atKey_mapD (k : Int) (rs : List R) (z : DataW H) : (mapD H rs).atKey (.int .i64 k) z = match lookR k rs with | some v => .lit (.int .i64 v) | none => z := by
  show (match (rs.map (ent (H := H))).find? (fun p => p.1.sameKey (.int .i64 k)) with | some p => p.2 | none => z) = _
  rw [find_ent]
  unfold lookR
  cases rs.find? fun r => decide (r.1 = k) <;> rfl
theorem has_mapD (k : Int) (rs : List R) : has (mapD H rs) (.int .i64 k) = (lookR k rs).isSome := by
  show (rs.map (ent (H := H))).any (fun p => p.1.sameKey (.int .i64 k)) = _
  rw [List.any_map]
  unfold lookR
  have e : ((fun p : Lit × DataW H => p.1.sameKey (.int .i64 k)) ∘ ent) = fun r => decide (r.1 = k) := by funext r; simp only [Function.comp, same_ent]
  rw [e, Option.isSome_map, Bool.eq_iff_iff, List.find?_isSome]
  simp
theorem size_mapD (rs : List R) : size (mapD H rs) = rs.length := by
  show (rs.map ent).length = _
  simp
end

theorem mem_delR {k : Int} {rs : List R} {r : R} : r ∈ delR k rs ↔ r ∈ rs ∧ r.1 ≠ k := by simp [delR]
theorem mem_insR {x r : R} : ∀ {rs : List R}, r ∈ insR x rs ↔ r = x ∨ r ∈ rs
  | [] => by simp [insR]
  | y :: t => by
    unfold insR
    split
    · simp
    · simp only [List.mem_cons, mem_insR (rs := t)]
      constructor
      · rintro (h | h | h)
        · exact .inr (.inl h)
        · exact .inl h
        · exact .inr (.inr h)
      · rintro (h | h | h)
        · exact .inr (.inl h)
        · exact .inl h
        · exact .inr (.inr h)
theorem mem_putR {k v : Int} {rs : List R} {r : R} : r ∈ putR k v rs ↔ r = (k, v) ∨ (r ∈ rs ∧ r.1 ≠ k) := by rw [putR, mem_insR, mem_delR]
theorem sort_delR {k : Int} {rs : List R} (h : SortK rs) : SortK (delR k rs) := List.Pairwise.filter _ h
theorem sort_insR {x : R} : ∀ {rs : List R}, SortK rs → (∀ r ∈ rs, r.1 ≠ x.1) → SortK (insR x rs)
  | [], _, _ => by simp [insR, SortK]
  | y :: t, h, hn => by
    obtain ⟨h1, h2⟩ := List.pairwise_cons.1 h
    unfold insR
    split
    · rename_i hlt
      refine List.pairwise_cons.2 ⟨fun r hr => ?_, h⟩
      rcases List.mem_cons.1 hr with rfl | hr
      · exact hlt
      · have := h1 r hr; omega
    · rename_i hlt
      refine List.pairwise_cons.2 ⟨fun r hr => ?_, sort_insR h2 fun r hr => hn r (by simp [hr])⟩
      have hy := hn y (by simp)
      rcases mem_insR.1 hr with rfl | hr
      · omega
      · exact h1 r hr
theorem sort_putR {k v : Int} {rs : List R} (h : SortK rs) : SortK (putR k v rs) := sort_insR (sort_delR h) fun _ hr => (mem_delR.1 hr).2
theorem sort_inj {rs : List R} (h : SortK rs) {x y : R} (hx : x ∈ rs) (hy : y ∈ rs) (e : x.1 = y.1) : x = y := by
  induction rs with
  | nil => simp at hx
  | cons z t ih =>
    obtain ⟨h1, h2⟩ := List.pairwise_cons.1 h
    rcases List.mem_cons.1 hx with rfl | hx' <;> rcases List.mem_cons.1 hy with rfl | hy'
    · rfl
    · have := h1 y hy'; omega
    · have := h1 x hx'; omega
    · exact ih h2 hx' hy'
theorem sort_ext {a b : List R} (ha : SortK a) (hb : SortK b) (h : ∀ r, r ∈ a ↔ r ∈ b) : a = b := by
  have na : a.Nodup := ha.imp fun {x y} hlt e => by rw [e] at hlt; omega
  have nb : b.Nodup := hb.imp fun {x y} hlt e => by rw [e] at hlt; omega
  exact List.Perm.eq_of_pairwise (le := fun x y => x.1 < y.1) (fun x y _ _ h1 h2 => by omega) ha hb ((List.perm_ext_iff_of_nodup na nb).2 h)
theorem lookR_some {k v : Int} {rs : List R} (h : lookR k rs = some v) : (k, v) ∈ rs := by
  unfold lookR at h
  obtain ⟨r, hr, rfl⟩ := Option.map_eq_some_iff.1 h
  have h1 := List.mem_of_find?_eq_some hr
  have h2 : r.1 = k := by simpa using List.find?_some hr
  subst h2
  exact h1
theorem lookR_none {k : Int} {rs : List R} : lookR k rs = none ↔ ∀ r ∈ rs, r.1 ≠ k := by
  unfold lookR
  rw [Option.map_eq_none_iff, List.find?_eq_none]
  simp
theorem lookR_mem {rs : List R} (h : SortK rs) {r : R} (hr : r ∈ rs) : lookR r.1 rs = some r.2 := by
  cases e : lookR r.1 rs with
  | none => exact absurd rfl (lookR_none.1 e r hr)
  | some v => have := sort_inj h hr (lookR_some e) rfl; rw [this]
theorem insR_end {x : R} : ∀ {rs : List R}, (∀ r ∈ rs, r.1 < x.1) → insR x rs = rs ++ [x]
  | [], _ => rfl
  | y :: t, h => by
    unfold insR
    have := h y (by simp)
    rw [if_neg (by omega), insR_end fun r hr => h r (by simp [hr])]
    rfl
theorem putR_end {k v : Int} {rs : List R} (h : ∀ r ∈ rs, r.1 < k) : putR k v rs = rs ++ [(k, v)] := by
  have : delR k rs = rs := List.filter_eq_self.2 fun r hr => by have := h r hr; simp; omega
  rw [putR, this, insR_end h]
/-- A valid list lies in order. -/
theorem good_sort {least : Int} {rs : List R} (h : good least rs = true) : SortK rs := by
  induction rs generalizing least with
  | nil => exact List.Pairwise.nil
  | cons x t ih =>
    obtain ⟨h1, h2, h3⟩ := (good_cons_iff _ _ _).1 h
    have h2 := (okR_iff _).1 h2
    exact List.pairwise_cons.2 ⟨fun r hr => by have := (good_mem h3 r hr).2; omega, ih h3⟩
theorem good_sep {least : Int} {rs : List R} (h : good least rs = true) {x y : R} (hx : x ∈ rs) (hy : y ∈ rs) (hlt : x.1 < y.1) : x.1 + x.2 < y.1 := by
  induction rs generalizing least with
  | nil => simp at hx
  | cons z t ih =>
    obtain ⟨h1, h2, h3⟩ := (good_cons_iff _ _ _).1 h
    have h2 := (okR_iff _).1 h2
    rcases List.mem_cons.1 hx with rfl | hx' <;> rcases List.mem_cons.1 hy with rfl | hy'
    · omega
    · have := (good_mem h3 y hy').2; omega
    · have := (good_mem h3 x hx').2; omega
    · exact ih h3 hx' hy'
theorem good_of {least : Int} {rs : List R} (hs : SortK rs) (ho : ∀ r ∈ rs, okR r = true) (hsep : ∀ x ∈ rs, ∀ y ∈ rs, x.1 < y.1 → x.1 + x.2 < y.1) (hl : ∀ r ∈ rs, least ≤ r.1) : good least rs = true := by
  induction rs generalizing least with
  | nil => rfl
  | cons z t ih =>
    obtain ⟨h1, h2⟩ := List.pairwise_cons.1 hs
    refine (good_cons_iff _ _ _).2 ⟨hl z (by simp), ho z (by simp), ih h2 (fun r hr => ho r (by simp [hr])) (fun x hx y hy => hsep x (by simp [hx]) y (by simp [hy])) fun r hr => ?_⟩
    have := hsep z (by simp) r (by simp [hr]) (h1 r hr)
    omega
theorem good_mono {l l' : Int} {rs : List R} (h : good l' rs = true) (hl : l ≤ l') : good l rs = true := by
  cases rs with
  | nil => rfl
  | cons z t =>
    obtain ⟨h1, h2, h3⟩ := (good_cons_iff _ _ _).1 h
    exact (good_cons_iff _ _ _).2 ⟨by omega, h2, h3⟩

/-- Is the page among the list's? -/
def pg (rs : List R) (p : Int) : Prop := ∃ x ∈ rs, x.1 ≤ p ∧ p < x.1 + x.2
/-- A valid list is told by its pages. -/
theorem good_unique : ∀ {a b : List R} {l l' : Int}, good l a = true → good l' b = true → (∀ p, pg a p ↔ pg b p) → a = b
  | [], [], _, _, _, _, _ => rfl
  | [], y :: t, _, _, _, hb, h => by
    obtain ⟨_, h2, _⟩ := (good_cons_iff _ _ _).1 hb
    have h2 := (okR_iff _).1 h2
    obtain ⟨z, hz, _⟩ := (h y.1).2 ⟨y, by simp, by omega, by omega⟩
    simp at hz
  | x :: t, [], _, _, ha, _, h => by
    obtain ⟨_, h2, _⟩ := (good_cons_iff _ _ _).1 ha
    have h2 := (okR_iff _).1 h2
    obtain ⟨z, hz, _⟩ := (h x.1).1 ⟨x, by simp, by omega, by omega⟩
    simp at hz
  | x :: s, y :: t, l, l', ha, hb, h => by
    obtain ⟨a1, a2, a3⟩ := (good_cons_iff _ _ _).1 ha
    obtain ⟨b1, b2, b3⟩ := (good_cons_iff _ _ _).1 hb
    have a2 := (okR_iff _).1 a2
    have b2 := (okR_iff _).1 b2
    have hx : ∀ p, pg (x :: s) p ↔ (x.1 ≤ p ∧ p < x.1 + x.2) ∨ pg s p := fun p => by simp [pg]
    have hy : ∀ p, pg (y :: t) p ↔ (y.1 ≤ p ∧ p < y.1 + y.2) ∨ pg t p := fun p => by simp [pg]
    have ls : ∀ p, pg s p → x.1 + x.2 + 1 ≤ p := fun p ⟨z, hz, hp, _⟩ => by have := (good_mem a3 z hz).2; omega
    have lt : ∀ p, pg t p → y.1 + y.2 + 1 ≤ p := fun p ⟨z, hz, hp, _⟩ => by have := (good_mem b3 z hz).2; omega
    have e1 : x.1 = y.1 := by
      have p1 := (hy x.1).1 ((h x.1).1 ((hx _).2 (.inl (by omega))))
      have p2 := (hx y.1).1 ((h y.1).2 ((hy _).2 (.inl (by omega))))
      rcases p1 with p1 | p1 <;> rcases p2 with p2 | p2
      · omega
      · have := ls _ p2; omega
      · have := lt _ p1; omega
      · have := ls _ p2; have := lt _ p1; omega
    have e2 : x.2 = y.2 := by
      by_cases c : x.2 < y.2
      · have := (hx (x.1 + x.2)).1 ((h _).2 ((hy _).2 (.inl (by omega))))
        rcases this with q | q
        · omega
        · have := ls _ q; omega
      · by_cases c' : y.2 < x.2
        · have := (hy (y.1 + y.2)).1 ((h _).1 ((hx _).2 (.inl (by omega))))
          rcases this with q | q
          · omega
          · have := lt _ q; omega
        · omega
    have e : x = y := Prod.ext e1 e2
    subst e
    rw [good_unique a3 b3 fun p => ?_]
    constructor
    · intro hp
      have l1 := ls p hp
      rcases (hy p).1 ((h p).1 ((hx p).2 (.inr hp))) with q | q
      · omega
      · exact q
    · intro hp
      have l1 := lt p hp
      rcases (hx p).1 ((h p).2 ((hy p).2 (.inr hp))) with q | q
      · omega
      · exact q
end Go.Proofs.Ytdiejmebodpjeaa.Pr
