/- What is given back: runs on both sides are joined; the runs of a set of pages. -/
import Derived.Test.YtdiejmebodpjeaaPt
namespace Go.Proofs.Ytdiejmebodpjeaa.Pr

def meetsR (rs : List R) (r : R) : Bool := rs.any fun x => decide (x.1 < r.1 + r.2) && decide (r.1 < x.1 + x.2)
theorem meetsR_false {rs : List R} {r : R} (h : meetsR rs r = false) : ∀ x ∈ rs, r.1 + r.2 ≤ x.1 ∨ x.1 + x.2 ≤ r.1 := fun x hx => by
  have := List.any_eq_false.1 h x hx
  simp at this
  omega
theorem meetsR_true {rs : List R} {r : R} (h : meetsR rs r = true) : ∃ x ∈ rs, x.1 < r.1 + r.2 ∧ r.1 < x.1 + x.2 := by
  obtain ⟨x, hx, h⟩ := List.any_eq_true.1 h
  simp at h
  exact ⟨x, hx, h⟩
/-- The first page of the run that ends just before the page. -/
def endR (page : Int) (rs : List R) : Option Int := (rs.find? fun x => decide (x.1 + x.2 = page)).map (·.1)
theorem endR_some {page b : Int} {rs : List R} (h : endR page rs = some b) : ∃ x ∈ rs, x.1 = b ∧ x.1 + x.2 = page := by
  unfold endR at h
  obtain ⟨x, hx, rfl⟩ := Option.map_eq_some_iff.1 h
  exact ⟨x, List.mem_of_find?_eq_some hx, rfl, by simpa using List.find?_some hx⟩
theorem endR_none {page : Int} {rs : List R} (h : endR page rs = none) : ∀ x ∈ rs, x.1 + x.2 ≠ page := by
  unfold endR at h
  rw [Option.map_eq_none_iff, List.find?_eq_none] at h
  intro x hx
  simpa using h x hx
theorem end_unique {rs : List R} {least : Int} (hg : good least rs = true) {x y : R} (hx : x ∈ rs) (hy : y ∈ rs) (e : x.1 + x.2 = y.1 + y.2) : x = y := by
  have ox := (okR_iff _).1 (good_mem hg x hx).1
  have oy := (okR_iff _).1 (good_mem hg y hy).1
  by_cases c : x.1 < y.1
  · have := good_sep hg hx hy c; omega
  · by_cases c' : y.1 < x.1
    · have := good_sep hg hy hx c'; omega
    · exact Prod.ext (by omega) (by omega)
theorem endR_eq {page : Int} {rs : List R} {least : Int} (hg : good least rs = true) {x : R} (hx : x ∈ rs) (e : x.1 + x.2 = page) : endR page rs = some x.1 := by
  cases h : endR page rs with
  | none => exact absurd e (endR_none h x hx)
  | some b =>
    obtain ⟨y, hy, rfl, e2⟩ := endR_some h
    rw [end_unique hg hx hy (by omega)]
/-- Striking runs leaves a valid list. -/
theorem good_filter {rs : List R} (hg : good 0 rs = true) (f : R → Bool) : good 0 (rs.filter f) = true :=
  good_of ((good_sort hg).filter _) (fun r hr => (good_mem hg r (List.mem_filter.1 hr).1).1) (fun _ hx _ hy => good_sep hg (List.mem_filter.1 hx).1 (List.mem_filter.1 hy).1) (fun r hr => (good_mem hg r (List.mem_filter.1 hr).1).2)
theorem good_delR {rs : List R} (hg : good 0 rs = true) (k : Int) : good 0 (delR k rs) = true := good_filter hg _

/-- What a run is given back to: the run behind it is joined. -/
def joined (rs : List R) (r : R) : List R × Int := match lookR (r.1 + r.2) rs with | some v => (delR (r.1 + r.2) rs, r.2 + v) | none => (rs, r.2)
def giveL (rs : List R) (r : R) : List R := match endR r.1 (joined rs r).1 with | some b => putR b ((lookR b (joined rs r).1).getD 0 + (joined rs r).2) (joined rs r).1 | none => putR r.1 (joined rs r).2 (joined rs r).1

/-- A run put in the place of those that it swallows. -/
theorem merge {rs : List R} (hg : good 0 rs = true) (keep : R → Bool) {s e : Int} (h0 : 0 ≤ s) (h1 : s < e) (h2 : e ≤ 32)
    (hk : ∀ x ∈ rs, keep x = true → x.1 + x.2 < s ∨ e < x.1) (hn : ∀ x ∈ rs, keep x = false → s ≤ x.1 ∧ x.1 + x.2 ≤ e) :
    good 0 (insR (s, e - s) (rs.filter keep)) = true ∧ ∀ p, pg (insR (s, e - s) (rs.filter keep)) p ↔ pg rs p ∨ (s ≤ p ∧ p < e) := by
  have hm : ∀ x, x ∈ rs.filter keep → x ∈ rs ∧ keep x = true := fun x hx => List.mem_filter.1 hx
  have ok : ∀ x ∈ rs, 0 ≤ x.1 ∧ 1 ≤ x.2 ∧ x.1 + x.2 ≤ 32 := fun x hx => (okR_iff _).1 (good_mem hg x hx).1
  constructor
  · refine good_of (sort_insR ((good_sort hg).filter _) fun r hr => ?_) (fun r hr => ?_) (fun x hx y hy hlt => ?_) (fun r hr => ?_)
    · obtain ⟨a, b⟩ := hm r hr
      have := ok r a
      rcases hk r a b with c | c
      · simp only []; omega
      · simp only []; omega
    · rcases mem_insR.1 hr with rfl | hr
      · exact (okR_iff _).2 ⟨h0, by simp only []; omega, by simp only []; omega⟩
      · exact (good_mem hg r (hm r hr).1).1
    · rcases mem_insR.1 hx with rfl | hx <;> rcases mem_insR.1 hy with rfl | hy
      · omega
      · obtain ⟨a, b⟩ := hm y hy
        have := ok y a
        simp only [] at hlt ⊢
        rcases hk y a b with c | c <;> omega
      · obtain ⟨a, b⟩ := hm x hx
        have := ok x a
        simp only [] at hlt ⊢
        rcases hk x a b with c | c <;> omega
      · exact good_sep hg (hm x hx).1 (hm y hy).1 hlt
    · rcases mem_insR.1 hr with rfl | hr
      · exact h0
      · exact (good_mem hg r (hm r hr).1).2
  · intro p
    constructor
    · rintro ⟨x, hx, a, b⟩
      rcases mem_insR.1 hx with rfl | hx
      · simp only [] at a b
        exact .inr (by omega)
      · exact .inl ⟨x, (hm x hx).1, a, b⟩
    · rintro (⟨x, hx, a, b⟩ | ⟨a, b⟩)
      · cases c : keep x
        · have := hn x hx c
          exact ⟨(s, e - s), mem_insR.2 (.inl rfl), by simp only []; omega, by simp only []; omega⟩
        · exact ⟨x, mem_insR.2 (.inr (List.mem_filter.2 ⟨hx, c⟩)), a, b⟩
      · exact ⟨(s, e - s), mem_insR.2 (.inl rfl), by simp only []; omega, by simp only []; omega⟩
theorem giveL_spec {rs : List R} {r : R} (hg : good 0 rs = true) (hr : okR r = true) (hm : meetsR rs r = false) :
    good 0 (giveL rs r) = true ∧ ∀ p, pg (giveL rs r) p ↔ pg rs p ∨ (r.1 ≤ p ∧ p < r.1 + r.2) := by
  have hm := meetsR_false hm
  have hr := (okR_iff _).1 hr
  have hs := good_sort hg
  have ok : ∀ x ∈ rs, 0 ≤ x.1 ∧ 1 ≤ x.2 ∧ x.1 + x.2 ≤ 32 := fun x hx => (okR_iff _).1 (good_mem hg x hx).1
  unfold giveL joined
  cases hl : lookR (r.1 + r.2) rs with
  | none =>
    have hl := lookR_none.1 hl
    simp only []
    cases he : endR r.1 rs with
    | none =>
      have he := endR_none he
      simp only []
      have h := merge hg (fun x => !decide (x.1 = r.1)) (s := r.1) (e := r.1 + r.2) hr.1 (by omega) hr.2.2
        (fun x hx _ => by have a := hm x hx; have b := hl x hx; have c := he x hx; omega)
        (fun x hx c => by have a := hm x hx; have b := ok x hx; simp at c; omega)
      have e : r.1 + r.2 - r.1 = r.2 := by omega
      rw [e] at h
      exact h
    | some b =>
      obtain ⟨x, hx, rfl, hxe⟩ := endR_some he
      simp only [lookR_mem hs hx, Option.getD_some]
      have h := merge hg (fun y => !decide (y.1 = x.1)) (s := x.1) (e := r.1 + r.2) (ok x hx).1 (by have := ok x hx; omega) hr.2.2
        (fun y hy c => by
          have a := hm y hy; have b := hl y hy; have d := ok y hy; have f := ok x hx
          have c : ¬ y.1 = x.1 := by simpa using c
          by_cases g : y.1 < x.1
          · exact .inl (good_sep hg hy hx g)
          · have := good_sep hg hx hy (by omega)
            omega)
        (fun y hy c => by
          have c : y.1 = x.1 := by simpa using c
          obtain rfl := sort_inj hs hy hx c
          omega)
      have e : r.1 + r.2 - x.1 = x.2 + r.2 := by omega
      rw [e] at h
      refine ⟨h.1, fun p => (h.2 p).trans ?_⟩
      constructor
      · rintro (q | q)
        · exact .inl q
        · by_cases g : p < r.1
          · exact .inl ⟨x, hx, by omega, by omega⟩
          · exact .inr (by omega)
      · rintro (q | q)
        · exact .inl q
        · have := ok x hx; exact .inr (by omega)
  | some v =>
    have hv := lookR_some hl
    have hvo := ok _ hv
    simp only [] at hvo
    simp only []
    cases he : endR r.1 (delR (r.1 + r.2) rs) with
    | none =>
      have he := endR_none he
      simp only []
      have h := merge hg (fun x => !decide (x.1 = r.1) && !decide (x.1 = r.1 + r.2)) (s := r.1) (e := r.1 + r.2 + v) hr.1 (by omega) hvo.2.2
        (fun x hx c => by
          simp at c
          have a := hm x hx; have b := he x (mem_delR.2 ⟨hx, c.2⟩); have d := ok x hx
          rcases a with a | a
          · have := good_sep hg hv hx (by simp only []; omega); simp only [] at this; omega
          · omega)
        (fun x hx c => by
          have a := hm x hx; have d := ok x hx
          by_cases f : x.1 = r.1 + r.2
          · have := sort_inj hs hx hv f
            subst this
            simp only []; omega
          · have c : x.1 = r.1 := by simpa [f] using c
            omega)
      have e : r.1 + r.2 + v - r.1 = r.2 + v := by omega
      rw [e] at h
      have e2 : putR r.1 (r.2 + v) (delR (r.1 + r.2) rs) = insR (r.1, r.2 + v) (rs.filter fun x => !decide (x.1 = r.1) && !decide (x.1 = r.1 + r.2)) := by
        unfold putR delR; rw [List.filter_filter]
      rw [e2]
      refine ⟨h.1, fun p => (h.2 p).trans ?_⟩
      constructor
      · rintro (q | q)
        · exact .inl q
        · by_cases g : p < r.1 + r.2
          · exact .inr (by omega)
          · exact .inl ⟨_, hv, by simp only []; omega, by simp only []; omega⟩
      · rintro (q | q)
        · exact .inl q
        · exact .inr (by omega)
    | some b =>
      obtain ⟨x, hx0, rfl, hxe⟩ := endR_some he
      obtain ⟨hx, hxn⟩ := mem_delR.1 hx0
      have hxo := ok x hx
      simp only [lookR_mem (sort_delR hs) hx0, Option.getD_some]
      have h := merge hg (fun y => !decide (y.1 = x.1) && !decide (y.1 = r.1 + r.2)) (s := x.1) (e := r.1 + r.2 + v) hxo.1 (by omega) hvo.2.2
        (fun y hy c => by
          simp at c
          have a := hm y hy; have d := ok y hy
          rcases a with a | a
          · have := good_sep hg hv hy (by simp only []; omega); simp only [] at this; omega
          · by_cases g : y.1 < x.1
            · exact .inl (good_sep hg hy hx g)
            · have := good_sep hg hx hy (by omega)
              omega)
        (fun y hy c => by
          have a := hm y hy; have d := ok y hy
          by_cases f : y.1 = r.1 + r.2
          · have := sort_inj hs hy hv f
            subst this
            simp only []; omega
          · have c : y.1 = x.1 := by simpa [f] using c
            obtain rfl := sort_inj hs hy hx c
            omega)
      have e : r.1 + r.2 + v - x.1 = x.2 + (r.2 + v) := by omega
      rw [e] at h
      have e2 : putR x.1 (x.2 + (r.2 + v)) (delR (r.1 + r.2) rs) = insR (x.1, x.2 + (r.2 + v)) (rs.filter fun y => !decide (y.1 = x.1) && !decide (y.1 = r.1 + r.2)) := by
        unfold putR delR; rw [List.filter_filter]
      rw [e2]
      refine ⟨h.1, fun p => (h.2 p).trans ?_⟩
      constructor
      · rintro (q | q)
        · exact .inl q
        · by_cases g : p < r.1
          · exact .inl ⟨x, hx, by omega, by omega⟩
          · by_cases g' : p < r.1 + r.2
            · exact .inr (by omega)
            · exact .inl ⟨_, hv, by simp only []; omega, by simp only []; omega⟩
      · rintro (q | q)
        · exact .inl q
        · exact .inr (by omega)

/-- One page more is looked at. -/
def addPage (f : Nat → Bool) (k : Nat) (out : List R) : List R :=
  if f k then (match out.getLast? with | some l => if l.1 + l.2 = (k : Int) then out.dropLast ++ [(l.1, l.2 + 1)] else out ++ [((k : Int), 1)] | none => [((k : Int), 1)]) else out
/-- The runs of the pages below n that f has. -/
def runsOf (f : Nat → Bool) : Nat → List R
  | 0 => []
  | k + 1 => addPage f k (runsOf f k)
structure RunsTo (f : Nat → Bool) (k : Nat) (out : List R) : Prop where
  good : good 0 out = true
  last : ∀ x ∈ out, x.1 + x.2 ≤ (k : Int)
  pages : ∀ p : Int, pg out p ↔ (0 ≤ p ∧ p < (k : Int) ∧ f p.toNat = true)
theorem good_snoc {out : List R} {x : R} (hg : Pr.good 0 out = true) (ho : okR x = true) (hl : ∀ y ∈ out, y.1 + y.2 < x.1) : Pr.good 0 (out ++ [x]) = true := by
  have ho' := (okR_iff _).1 ho
  refine good_of (List.pairwise_append.2 ⟨good_sort hg, by simp, fun a ha b hb => ?_⟩) (fun r hr => ?_) (fun a ha b hb hlt => ?_) (fun r hr => ?_)
  · simp at hb; subst hb
    have := hl a ha; have := (okR_iff _).1 (good_mem hg a ha).1; omega
  · rcases List.mem_append.1 hr with hr | hr
    · exact (good_mem hg r hr).1
    · simp at hr; subst hr; exact ho
  · rcases List.mem_append.1 ha with ha' | ha' <;> rcases List.mem_append.1 hb with hb' | hb'
    · exact good_sep hg ha' hb' hlt
    · simp at hb'; subst hb'; exact hl a ha'
    · simp at ha'; subst ha'; have := hl b hb'; have := (okR_iff _).1 (good_mem hg b hb').1; omega
    · simp at ha' hb'; subst ha'; subst hb'; omega
  · rcases List.mem_append.1 hr with hr | hr
    · exact (good_mem hg r hr).2
    · simp at hr; subst hr; exact ho'.1
theorem pg_append (a b : List R) (p : Int) : pg (a ++ b) p ↔ pg a p ∨ pg b p := by
  simp only [pg, List.mem_append]
  constructor
  · rintro ⟨x, h | h, r⟩
    · exact .inl ⟨x, h, r⟩
    · exact .inr ⟨x, h, r⟩
  · rintro (⟨x, h, r⟩ | ⟨x, h, r⟩)
    · exact ⟨x, .inl h, r⟩
    · exact ⟨x, .inr h, r⟩
theorem pg_one (x : R) (p : Int) : pg [x] p ↔ x.1 ≤ p ∧ p < x.1 + x.2 := by simp [pg]
theorem RunsTo.step {f : Nat → Bool} {k : Nat} {out : List R} (h : RunsTo f k out) (hk : k < 32) : RunsTo f (k + 1) (addPage f k out) := by
  obtain ⟨hg, hl, hp⟩ := h
  unfold addPage
  cases hf : f k
  · refine ⟨by simpa using hg, fun x hx => ?_, fun p => ?_⟩
    · have := hl x (by simpa using hx); omega
    · simp only [Bool.false_eq_true, if_false]
      rw [hp p]
      constructor
      · rintro ⟨a, b, c⟩; exact ⟨a, by omega, c⟩
      · rintro ⟨a, b, c⟩
        refine ⟨a, ?_, c⟩
        by_cases e : p = k
        · subst e; simp [hf] at c
        · omega
  · simp only [if_true]
    have tail : ∀ out' : List R, (∀ p, pg out' p ↔ pg out p ∨ p = (k : Int)) → ∀ p : Int, pg out' p ↔ (0 ≤ p ∧ p < ((k + 1 : Nat) : Int) ∧ f p.toNat = true) := fun out' ho p => by
      rw [ho p, hp p]
      constructor
      · rintro (⟨a, b, c⟩ | rfl)
        · exact ⟨a, by omega, c⟩
        · exact ⟨by omega, by omega, by simpa using hf⟩
      · rintro ⟨a, b, c⟩
        by_cases e : p = k
        · exact .inr e
        · exact .inl ⟨a, by omega, c⟩
    have snoc : (∀ x ∈ out, x.1 + x.2 ≠ (k : Int)) → RunsTo f (k + 1) (out ++ [((k : Int), 1)]) := fun hne => by
      refine ⟨good_snoc hg ((okR_iff _).2 ⟨by simp only []; omega, by simp only []; omega, by simp only []; omega⟩) (fun y hy => ?_), fun x hx => ?_, tail _ fun p => ?_⟩
      · have := hl y hy; have := hne y hy; simp only []; omega
      · rcases List.mem_append.1 hx with hx | hx
        · have := hl x hx; omega
        · simp at hx; subst hx; simp only []; omega
      · rw [pg_append, pg_one]; simp only []
        constructor
        · rintro (q | q)
          · exact .inl q
          · exact .inr (by omega)
        · rintro (q | q)
          · exact .inl q
          · exact .inr (by omega)
    cases hlast : out.getLast? with
    | none =>
      have : out = [] := by simpa using hlast
      subst this
      exact snoc fun x hx => by simp at hx
    | some l =>
      simp only []
      obtain ⟨pre, rfl⟩ : ∃ pre, out = pre ++ [l] := ⟨out.dropLast, by
        have hne : out ≠ [] := by intro e; rw [e] at hlast; simp at hlast
        have e := List.getLast?_eq_some_getLast hne ▸ hlast
        simp only [Option.some.injEq] at e
        rw [← e]; exact (List.dropLast_concat_getLast hne).symm⟩
      have hol : okR l = true := (good_mem hg l (by simp)).1
      have hol' := (okR_iff _).1 hol
      have hpre : ∀ y ∈ pre, y.1 + y.2 < l.1 := fun y hy => good_sep hg (by simp [hy]) (by simp) ((List.pairwise_append.1 (good_sort hg)).2.2 y hy l (by simp))
      by_cases e : l.1 + l.2 = (k : Int)
      · rw [if_pos e, List.dropLast_concat]
        have hgp : Pr.good 0 pre = true := good_of (List.pairwise_append.1 (good_sort hg)).1 (fun r hr => (good_mem hg r (by simp [hr])).1) (fun a ha b hb => good_sep hg (by simp [ha]) (by simp [hb])) (fun r hr => (good_mem hg r (by simp [hr])).2)
        refine ⟨good_snoc hgp ((okR_iff _).2 ⟨by simp only []; omega, by simp only []; omega, by simp only []; omega⟩) (fun y hy => hpre y hy), fun x hx => ?_, tail _ fun p => ?_⟩
        · rcases List.mem_append.1 hx with hx | hx
          · have := hl x (by simp [hx]); omega
          · simp at hx; subst hx; simp only []; omega
        · rw [pg_append, pg_append, pg_one, pg_one]; simp only []
          constructor
          · rintro (q | q)
            · exact .inl (.inl q)
            · by_cases g : p = k
              · exact .inr g
              · exact .inl (.inr (by omega))
          · rintro ((q | q) | q)
            · exact .inl q
            · exact .inr (by omega)
            · exact .inr (by omega)
      · rw [if_neg e]
        refine snoc fun x hx => ?_
        rcases List.mem_append.1 hx with hx | hx
        · have := hpre x hx
          have := hl l (by simp)
          omega
        · simp at hx; subst hx; exact e
theorem runsOf_spec (f : Nat → Bool) : ∀ k, k ≤ 32 → RunsTo f k (runsOf f k)
  | 0, _ => ⟨rfl, fun x hx => by simp [runsOf] at hx, fun p => by simp [runsOf, pg]; omega⟩
  | k + 1, h => (runsOf_spec f k (by omega)).step (by omega)
/-- A valid list is the runs of its pages. -/
theorem runsOf_eq {f : Nat → Bool} {rs : List R} (hg : good 0 rs = true) (h : ∀ p : Nat, p < 32 → (f p = true ↔ pg rs (p : Int))) : runsOf f 32 = rs := by
  obtain ⟨a, _, c⟩ := runsOf_spec f 32 (Nat.le_refl _)
  refine good_unique a hg fun p => ?_
  rw [c p]
  constructor
  · rintro ⟨h1, h2, h3⟩
    have := (h p.toNat (by omega)).1 h3
    rwa [Int.toNat_of_nonneg h1] at this
  · intro hp
    obtain ⟨x, hx, h1, h2⟩ := id hp
    have := (okR_iff _).1 (good_mem hg x hx).1
    exact ⟨by omega, by omega, (h p.toNat (by omega)).2 (by rwa [Int.toNat_of_nonneg (by omega)])⟩
end Go.Proofs.Ytdiejmebodpjeaa.Pr
