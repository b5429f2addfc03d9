/- The project's sameFields. The project's SameReached. The reference's NewThing. What a collection leaves: the reached objects as they were, and nothing else. Mathematics alone. What a new object and a changed field leave. Mathematics alone. Moves during a marking: what a move does, and what it keeps. A move keeps a marking good, and all that it comes to. How a marking ends. Lost objects: what is guarded, what is lost, how a marking goes on. Mathematics alone. -/
import Derived.Test.YtdagkbgobnaijaaHm1
import Derived.Test.YtdagkbgobnaijaaHn6
import Derived.Test.YtdagkbgobnaijaaHs6
import Derived.Test.YtdagkbgobnaijaaHp1
import Derived.Test.YtdagkbgobnaijaaHk2
import Derived.Test.YtdagkbgobnaijaaHw8
import Derived.Test.YtdagkbgobnaijaaPk
namespace Go.Proofs.Ytdagkbgobnaijaa.Ph
def sfB (a b : H) (ts : List Bool) (n : Nat) : Bool := (List.range n).all fun k => !(ts.getD k false) || (liveB b.l (k : Int) && decide (a.f.getD k [] = b.f.getD k []))
theorem sfB_succ {a b : H} {ts : List Bool} {n : Nat} : sfB a b ts (n + 1) = (sfB a b ts n && (!(ts.getD n false) || (liveB b.l (n : Int) && decide (a.f.getD n [] = b.f.getD n [])))) := by simp [sfB, List.range_succ]
theorem sfB_false {a b : H} {ts : List Bool} {n k : Nat} (h : k < n) (hn : (!(ts.getD k false) || (liveB b.l (k : Int) && decide (a.f.getD k [] = b.f.getD k []))) = false) : sfB a b ts n = false := by
  cases hq : sfB a b ts n with
  | false => rfl
  | true =>
    have := (List.all_eq_true.1 hq) k (by simpa using h)
    rw [hn] at this; cases this
end Go.Proofs.Ytdagkbgobnaijaa.Ph
namespace Go.Proofs.Ytdagkbgobnaijaa
open Go.RowKit Ph

end Go.Proofs.Ytdagkbgobnaijaa
namespace Go.Proofs.Ytdagkbgobnaijaa.Ph
theorem sfB_same {a b : H} (ga : Ph.Good a) (gb : Ph.Good b) (hr : a.r = b.r) : sfB a b (reachL a.f a.r) a.f.length = sameP a b := by
  rw [Bool.eq_iff_iff, sameP_iff]
  unfold sfB
  rw [List.all_eq_true]
  constructor
  · intro h
    refine same_of hr fun k hk => ?_
    have hl := reach_live ga hk
    have h1 := h k (by simpa using hl.2)
    rw [reachL_getD.2 ⟨hl.2, hk⟩] at h1
    simp only [Bool.not_true, Bool.false_or, Bool.and_eq_true, decide_eq_true_eq] at h1
    exact h1.2
  · rintro ⟨_, hs⟩ k hk
    by_cases hq : (reachL a.f a.r).getD k false = true
    · have hrk := (reachL_getD.1 hq).2
      have hl := reach_live gb ((hs k).1.1 hrk)
      rw [hq]
      simp only [Bool.not_true, Bool.false_or, Bool.and_eq_true, decide_eq_true_eq]
      exact ⟨liveB_iff.2 ⟨by omega, by simpa using hl.1⟩, (hs k).2 hrk⟩
    · have : (reachL a.f a.r).getD k false = false := by simpa using hq
      rw [this]; rfl
theorem sameP_roots {a b : H} (h : ¬ a.r = b.r) : sameP a b = false := sameP_false fun k => h k.1
def both (a b : H) : Bool := good a && good b
noncomputable def sameQ (a b : H) : Bool := both a b && sameP a b
end Go.Proofs.Ytdagkbgobnaijaa.Ph
namespace Go.Proofs.Ytdagkbgobnaijaa
open Go.RowKit Ph

theorem r_bb {a a' b b' : Bool} (h : a = a') (k : b = b') : Ending.returned (.tuple #[.bool a, .bool b]) = .returned (.tuple #[.bool a', .bool b']) := by rw [h, k]
end Go.Proofs.Ytdagkbgobnaijaa
namespace Go.Proofs.Ytdagkbgobnaijaa.Ph
theorem set_last {α : Type} (l : List α) (x y : α) : (l ++ [x]).set l.length y = l ++ [y] := by
  rw [List.set_append_right _ _ (Nat.le_refl _), Nat.sub_self, List.set_cons_zero]
theorem newS_yes {h : H} {m : Nat} (g : Good h) (hok : newOk h (m : Int) = true) : newS h m = ((newP h (m : Int)).1, (((newP h (m : Int)).2 : Nat) : Int)) := by
  rw [newP_yes hok, Int.toNat_natCast]
  have hle := place_le h.l
  have hll := g.ll
  unfold newOk at hok
  simp only [Bool.and_eq_true, decide_eq_true_eq] at hok
  have h12 := hok.2
  unfold newS grown1
  by_cases hp : placeOf h.l < h.l.length
  · rw [if_pos hp, if_pos hp]
  · have hpe : placeOf h.l = h.l.length := by omega
    rw [if_neg hp, if_neg hp, if_neg (by omega)]
    unfold put1
    simp only
    have e1 : (h.f ++ [[]]).set (placeOf h.l) (List.replicate m (-1)) = h.f ++ [List.replicate m (-1)] := by rw [hpe, hll]; exact set_last _ _ _
    have e2 : (h.l ++ [false]).set (placeOf h.l) true = h.l ++ [true] := by rw [hpe]; exact set_last _ _ _
    rw [e1, e2, hpe, hll]
theorem newS_no {h : H} {m : Nat} (g : Good h) (hm : m ≤ 3) (hok : newOk h (m : Int) = false) : (newS h m).2 = -1 := by
  have hle := place_le h.l
  have hll := g.ll
  have hn := g.n
  have h12 : ¬ placeOf h.l < 12 := fun q => by
    have : newOk h (m : Int) = true := by
      unfold newOk
      rw [good_iff.2 g, decide_eq_true (show (0 : Int) ≤ (m : Int) by omega), decide_eq_true (show (m : Int) ≤ 3 by omega), decide_eq_true q]; rfl
    rw [hok] at this; cases this
  unfold newS
  rw [if_neg (by omega), if_pos (by omega)]
theorem newP_wt (h : H) (m : Int) : wtH (newP h m).1 ≤ 1000 := by
  cases hok : newOk h m with
  | false => rw [newP_no hok]; exact nil_wt
  | true =>
    have hok' := hok
    unfold newOk at hok'
    simp only [Bool.and_eq_true, decide_eq_true_eq] at hok'
    have g := good_iff.1 hok'.1.1.1
    have h12 := hok'.2
    have hm := hok'.1.2
    have hm0 := hok'.1.1.2
    rw [newP_yes hok]
    have hll := g.ll
    have hn := g.n
    have hgl : (grown1 h).f.length ≤ 12 ∧ (grown1 h).l.length ≤ 12 ∧ (grown1 h).r.length ≤ 4 ∧ ∀ i, ((grown1 h).f.getD i []).length ≤ 3 := by
      have hrow : ∀ i, (h.f.getD i []).length ≤ 3 := fun i => by
        by_cases hi : i < h.f.length
        · exact (g.row i hi).1
        · simp [List.getD, List.getElem?_eq_none (Nat.le_of_not_lt hi)]
      unfold grown1
      split
      · exact ⟨hn, by omega, g.rn, hrow⟩
      · next q =>
        have := place_le h.l
        refine ⟨by simp; omega, by simp; omega, g.rn, fun i => ?_⟩
        by_cases hi : i < h.f.length
        · have := hrow i
          simpa [List.getD, List.getElem?_append_left hi] using this
        · by_cases hi2 : i = h.f.length
          · subst hi2; simp [List.getD]
          · have : (h.f ++ [([] : List Int)])[i]? = none := List.getElem?_eq_none (by simp; omega)
            simp [List.getD, this]
    refine small_wt (h := put1 (grown1 h) (placeOf h.l) m.toNat) (by unfold put1; simp only [List.length_set]; exact hgl.1) (fun i hi => ?_) (by unfold put1; simp only [List.length_set]; exact hgl.2.1) hgl.2.2.1
    unfold put1
    simp only
    by_cases hi : placeOf h.l < (grown1 h).f.length
    · rw [getD_setL hi]
      split
      · simp; omega
      · exact hgl.2.2.2 i
    · rw [List.set_eq_of_length_le (by omega)]; exact hgl.2.2.2 i
end Go.Proofs.Ytdagkbgobnaijaa.Ph
namespace Go.Proofs.Ytdagkbgobnaijaa
open Go.RowKit Ph

end Go.Proofs.Ytdagkbgobnaijaa
namespace Go.Proofs.Ytdagkbgobnaijaa.Ph
theorem keepTo_get (h : H) (ks : List Bool) (hll : h.l.length = h.f.length) (j : Nat) (hj : j ≤ h.f.length) : ∀ i, (keepTo h ks j).1.l.getD i false = (h.l.getD i false && (ks.getD i false || decide (j ≤ i))) ∧ (keepTo h ks j).1.f.getD i [] = if h.l.getD i false = true ∧ ks.getD i false = false ∧ i < j then [] else h.f.getD i [] := by
  induction j with
  | zero => exact fun i => ⟨by simp [keepTo], by rw [if_neg (by omega)]; rfl⟩
  | succ j ih =>
    have ih := ih (by omega)
    obtain ⟨e1, e2, _, _⟩ := keepTo_len h ks j
    have hlj : (keepTo h ks j).1.l.getD j false = h.l.getD j false := by rw [(ih j).1]; simp
    by_cases hy : h.l.getD j false = true ∧ ks.getD j false = false
    · rw [keepTo_yes (by rw [hlj]; exact hy.1) hy.2]
      intro i
      simp only
      rw [getD_set (by omega), getD_setL (by omega)]
      by_cases e : i = j
      · subst e
        rw [if_pos rfl, if_pos rfl, if_pos ⟨hy.1, hy.2, by omega⟩, hy.2]
        simp
      · rw [if_neg e, if_neg e, (ih i).1, (ih i).2]
        refine ⟨?_, ?_⟩
        · have : decide (j ≤ i) = decide (j + 1 ≤ i) := by
            by_cases q : j ≤ i
            · rw [decide_eq_true q, decide_eq_true (by omega)]
            · rw [decide_eq_false q, decide_eq_false (by omega)]
          rw [this]
        · by_cases q : h.l.getD i false = true ∧ ks.getD i false = false ∧ i < j
          · rw [if_pos q, if_pos ⟨q.1, q.2.1, by omega⟩]
          · rw [if_neg q, if_neg (fun k => q ⟨k.1, k.2.1, by omega⟩)]
    · have hn : (keepTo h ks j).1.l.getD j false = false ∨ ks.getD j false = true := by
        rw [hlj]
        cases hq : h.l.getD j false with
        | false => exact .inl rfl
        | true =>
          cases hq2 : ks.getD j false with
          | false => exact absurd ⟨hq, hq2⟩ hy
          | true => exact .inr rfl
      rw [keepTo_no hn]
      intro i
      rw [(ih i).1, (ih i).2]
      by_cases e : i = j
      · subst e
        refine ⟨?_, ?_⟩
        · cases hq : h.l.getD i false with
          | false => simp
          | true =>
            cases hq2 : ks.getD i false with
            | false => exact absurd ⟨hq, hq2⟩ hy
            | true => simp
        · rw [if_neg (by omega), if_neg (fun k => hy ⟨k.1, k.2.1⟩)]
      · refine ⟨?_, ?_⟩
        · have : decide (j ≤ i) = decide (j + 1 ≤ i) := by
            by_cases q : j ≤ i
            · rw [decide_eq_true q, decide_eq_true (by omega)]
            · rw [decide_eq_false q, decide_eq_false (by omega)]
          rw [this]
        · by_cases q : h.l.getD i false = true ∧ ks.getD i false = false ∧ i < j
          · rw [if_pos q, if_pos ⟨q.1, q.2.1, by omega⟩]
          · rw [if_neg q, if_neg (fun k => q ⟨k.1, k.2.1, by omega⟩)]
/-- Nothing goes where all that is live is kept. -/
theorem keepTo_all (h : H) (ks : List Bool) (hk : ∀ i, h.l.getD i false = true → ks.getD i false = true) (j : Nat) : keepTo h ks j = (h, 0) := by
  induction j with
  | zero => rfl
  | succ j ih =>
    rw [keepTo_no, ih]
    rw [ih]
    cases hq : h.l.getD j false with
    | false => exact .inl rfl
    | true => exact .inr (hk j hq)
theorem reach_in {h : H} (g : Good h) {k : Nat} (hr : Reach h.f h.r k) : k < h.f.length ∧ h.l.getD k false = true := by
  cases hr with
  | root hz => rcases refs_bound g g.rr _ hz with e | ⟨_, e1, e2⟩
               · omega
               · exact ⟨by omega, by simpa using e2⟩
  | step _ hz => rcases g.field hz with e | ⟨_, e1, e2⟩
                 · omega
                 · exact ⟨by omega, by simpa using e2⟩
structure Cln (h c : H) : Prop where
  l : c.l = reachL h.f h.r
  f : ∀ i, c.f.getD i [] = if (reachL h.f h.r).getD i false = true then h.f.getD i [] else []
  r : c.r = h.r
  n : c.f.length = h.f.length
theorem Cln.of {h : H} (g : Good h) : Cln h (cleanP h).1 := by
  rw [cleanP_yes (good_iff.2 g)]
  obtain ⟨e1, e2, e3, _⟩ := keepTo_len h (reachL h.f h.r) h.f.length
  have get := keepTo_get h (reachL h.f h.r) g.ll h.f.length (Nat.le_refl _)
  have rl : ∀ i, (reachL h.f h.r).getD i false = true → h.l.getD i false = true := fun i hi => (reach_in g (reachL_getD.1 hi).2).2
  refine ⟨?_, fun i => ?_, e3, e1⟩
  · refine eq_reachL (by rw [e2, g.ll]) fun k => ?_
    rw [(get k).1]
    constructor
    · intro q
      simp only [Bool.and_eq_true, Bool.or_eq_true, decide_eq_true_eq] at q
      have hk := getD_lt q.1
      rw [g.ll] at hk
      rcases q.2 with q2 | q2
      · exact reachL_getD.1 q2
      · omega
    · intro q
      have q1 := reachL_getD.2 q
      rw [rl k q1, q1]; rfl
  · rw [(get i).2]
    by_cases q : (reachL h.f h.r).getD i false = true
    · rw [if_pos q, if_neg (fun k => by rw [q] at k; cases k.2.1)]
    · rw [if_neg q]
      by_cases hi : i < h.f.length
      · rcases (g.row i hi).2.1 with hl | hl
        · rw [if_pos ⟨hl, by simpa using q, hi⟩]
        · rw [hl]; split <;> rfl
      · have : h.f.getD i [] = [] := by simp [List.getD, List.getElem?_eq_none (Nat.le_of_not_lt hi)]
        rw [this]; split <;> rfl
theorem Cln.reach {h c : H} (g : Good h) (k : Cln h c) (i : Nat) : Reach c.f c.r i ↔ Reach h.f h.r i := by
  constructor
  · intro q
    induction q with
    | root hz => rw [k.r] at hz; exact .root hz
    | step _ hz ih =>
      rw [k.f] at hz
      split at hz
      · exact .step ih hz
      · simp at hz
  · intro q
    induction q with
    | root hz => exact .root (by rw [k.r]; exact hz)
    | step hy hz ih => exact .step ih (by rw [k.f, if_pos (reachL_getD.2 ⟨(reach_in g hy).1, hy⟩)]; exact hz)
theorem Cln.reachL {h c : H} (g : Good h) (k : Cln h c) : Ph.reachL c.f c.r = Ph.reachL h.f h.r := by
  refine (eq_reachL (fs := c.f) (zs := c.r) (by rw [reachL_length, k.n]) fun i => ?_).symm
  rw [reachL_getD, k.n, k.reach g]
theorem Cln.good {h c : H} (g : Good h) (k : Cln h c) : Good c := by
  have live : ∀ z : Int, 0 ≤ z → Reach h.f h.r z.toNat → refB c.l z = true := fun z z0 hr => refB_iff.2 (.inr (liveB_iff.2 ⟨z0, by rw [k.l]; exact reachL_getD.2 ⟨(reach_in g hr).1, hr⟩⟩))
  have ref : ∀ (zs : List Int), (∀ z ∈ zs, z = -1 ∨ (0 ≤ z ∧ Reach h.f h.r z.toNat)) → refsB c.l zs = true := fun zs hz => refsB_iff.2 fun z q => by
    rcases hz z q with e | ⟨e1, e2⟩
    · exact refB_iff.2 (.inl e)
    · exact live z e1 e2
  refine ⟨by rw [k.n]; exact g.n, by rw [k.l, reachL_length, k.n], fun i hi => ?_, by rw [k.r]; exact g.rn, ?_⟩
  · rw [k.n] at hi
    rw [k.f]
    by_cases q : (Ph.reachL h.f h.r).getD i false = true
    · rw [if_pos q]
      refine ⟨(g.row i hi).1, .inl (by rw [k.l]; exact q), ref _ fun z hz => ?_⟩
      rcases g.field hz with e | ⟨e1, _, _⟩
      · exact .inl e
      · exact .inr ⟨e1, .step (reachL_getD.1 q).2 (by rw [Int.toNat_of_nonneg e1]; exact hz)⟩
    · rw [if_neg q]
      exact ⟨by simp, .inr rfl, rfl⟩
  · rw [k.r]
    refine ref _ fun z hz => ?_
    rcases refs_bound g g.rr z hz with e | ⟨e1, _, _⟩
    · exact .inl e
    · exact .inr ⟨e1, .root (by rw [Int.toNat_of_nonneg e1]; exact hz)⟩
/-- What the law asks of a collection. -/
theorem clean_facts {h : H} (hg : good h = true) : good (cleanP h).1 = true ∧ sameQ h (cleanP h).1 = true ∧ both h (cleanP h).1 = true ∧ reachR (cleanP h).1 = reachR h ∧ (cleanP h).1.l = reachR h ∧ ((cleanP (cleanP h).1).2 : Nat) = 0 ∧ (reachR h).length = h.f.length ∧ (∀ k, (reachR h).getD k false = true → ∀ y ∈ h.f.getD k [], 0 ≤ y → (reachR h).getD y.toNat false = true) := by
  have g := good_iff.1 hg
  have k := Cln.of g
  have gc := k.good g
  have hgc := good_iff.2 gc
  have hb : both h (cleanP h).1 = true := by unfold both; rw [hg, hgc]; rfl
  have hs : Same h (cleanP h).1 := ⟨k.r.symm, fun i => ⟨(k.reach g i).symm, fun q => by rw [k.f, if_pos (reachL_getD.2 ⟨(reach_in g q).1, q⟩)]⟩⟩
  have hr : reachR (cleanP h).1 = reachR h := by rw [reachR_yes hgc, reachR_yes hg]; exact k.reachL g
  refine ⟨hgc, by unfold sameQ; rw [hb, sameP_iff.2 hs]; rfl, hb, hr, by rw [reachR_yes hg]; exact k.l, ?_, by rw [reachR_yes hg, reachL_length], fun i hi y hy y0 => ?_⟩
  · rw [cleanP_yes hgc, keepTo_all _ _ (fun i hi => ?_)]
    rw [k.reachL g, ← k.l]; exact hi
  · rw [reachR_yes hg] at hi ⊢
    have hy' : ((y.toNat : Nat) : Int) ∈ h.f.getD i [] := by rw [Int.toNat_of_nonneg y0]; exact hy
    have hr : Reach h.f h.r y.toNat := .step (reachL_getD.1 hi).2 hy'
    exact reachL_getD.2 ⟨(reach_in g hr).1, hr⟩
end Go.Proofs.Ytdagkbgobnaijaa.Ph
namespace Go.Proofs.Ytdagkbgobnaijaa.Ph
theorem setF_facts {h : H} {t f z : Int} (hok : setFOk h t f z = true) : ∃ tn fn : Nat, t = tn ∧ f = fn ∧ tn < h.f.length ∧ fn < (h.f.getD tn []).length ∧ (setF h t f z).f.length = h.f.length ∧ (setF h t f z).l.length = h.l.length ∧ (setF h t f z).r.length = h.r.length ∧ (∀ k, (setF h t f z).f.getD k [] = if k = tn then (h.f.getD tn []).set fn z else h.f.getD k []) ∧ good h = true := by
  have hok' := hok
  unfold setFOk at hok'
  simp only [Bool.and_eq_true] at hok'
  obtain ⟨⟨hg, hb⟩, _⟩ := hok'
  obtain ⟨tn, fn, rfl, rfl, h1, h2⟩ := hasFB_iff hb (good_iff.1 hg)
  refine ⟨tn, fn, rfl, rfl, h1, h2, ?_⟩
  rw [setF_yes hok, Int.toNat_natCast, Int.toNat_natCast]
  exact ⟨by simp only [List.length_set], rfl, rfl, fun k => by simp only; rw [getD_setL h1], hg⟩
/-- The place that a new object takes was none's. -/
theorem place_dead (l : List Bool) : l.getD (placeOf l) false = false := by
  by_cases hp : placeOf l < l.length
  · have : (fun b => !b) l[placeOf l] = true := List.findIdx_getElem (w := hp)
    simp only [Bool.not_eq_true'] at this
    simp [List.getD, List.getElem?_eq_getElem hp, this]
  · simp [List.getD, List.getElem?_eq_none (Nat.le_of_not_lt hp)]
structure New (h N : H) (p m : Nat) : Prop where
  n : N.f.length = N.l.length ∧ N.f.length ≤ 12 ∧ p < N.f.length
  f : ∀ i, N.f.getD i [] = if i = p then List.replicate m (-1) else h.f.getD i []
  l : ∀ i, N.l.getD i false = if i = p then true else h.l.getD i false
  r : N.r = h.r
  d : h.l.getD p false = false
theorem New.of {h : H} {m : Int} (hok : newOk h m = true) : New h (newP h m).1 (newP h m).2 m.toNat := by
  have hok' := hok
  unfold newOk at hok'
  simp only [Bool.and_eq_true, decide_eq_true_eq] at hok'
  have g := good_iff.1 hok'.1.1.1
  have h12 := hok'.2
  have hle := place_le h.l
  have hll := g.ll
  have hn := g.n
  rw [newP_yes hok]
  simp only
  have hd := place_dead h.l
  unfold put1 grown1
  by_cases hp : placeOf h.l < h.l.length
  · rw [if_pos hp]
    refine ⟨by simp only [List.length_set]; omega, fun i => ?_, fun i => ?_, rfl, hd⟩
    · simp only; rw [getD_setL (by omega)]
    · simp only; rw [getD_set (by omega)]
  · rw [if_neg hp]
    have hpe : placeOf h.l = h.l.length := by omega
    refine ⟨by simp; omega, fun i => ?_, fun i => ?_, rfl, hd⟩
    · simp only
      rw [getD_setL (by simp; omega)]
      by_cases e : i = placeOf h.l
      · rw [if_pos e, if_pos e]
      · rw [if_neg e, if_neg e]
        by_cases hi : i < h.f.length
        · simp [List.getD, List.getElem?_append_left hi]
        · have h1 : (h.f ++ [([] : List Int)])[i]? = none := List.getElem?_eq_none (by simp; omega)
          have h2 : h.f[i]? = none := List.getElem?_eq_none (by omega)
          simp [List.getD, h1, h2]
    · simp only
      rw [getD_set (by simp; omega)]
      by_cases e : i = placeOf h.l
      · rw [if_pos e, if_pos e]
      · rw [if_neg e, if_neg e]
        by_cases hi : i < h.l.length
        · simp [List.getD, List.getElem?_append_left hi]
        · have h1 : (h.l ++ [false])[i]? = none := List.getElem?_eq_none (by simp; omega)
          have h2 : h.l[i]? = none := List.getElem?_eq_none (by omega)
          simp [List.getD, h1, h2]
theorem New.ref {h N : H} {p m : Nat} (k : New h N p m) {zs : List Int} (hz : refsB h.l zs = true) : refsB N.l zs = true := by
  rw [refsB_iff] at hz ⊢
  intro z q
  rcases refB_iff.1 (hz z q) with e | e
  · exact refB_iff.2 (.inl e)
  · obtain ⟨e1, e2⟩ := liveB_iff.1 e
    refine refB_iff.2 (.inr (liveB_iff.2 ⟨e1, ?_⟩))
    rw [k.l]
    split
    · rfl
    · exact e2
theorem New.good {h N : H} {p m : Nat} (g : Good h) (hm : m ≤ 3) (k : New h N p m) : Good N := by
  refine ⟨k.n.2.1, k.n.1.symm, fun i hi => ?_, by rw [k.r]; exact g.rn, by rw [k.r]; exact k.ref g.rr⟩
  rw [k.f, k.l]
  by_cases e : i = p
  · rw [if_pos e, if_pos e]
    refine ⟨by simp; omega, .inl rfl, ?_⟩
    rw [refsB_iff]
    intro z hz
    exact refB_iff.2 (.inl (List.eq_of_mem_replicate hz))
  · rw [if_neg e, if_neg e]
    by_cases hi2 : i < h.f.length
    · exact ⟨(g.row i hi2).1, (g.row i hi2).2.1, k.ref (g.row i hi2).2.2⟩
    · have : h.f.getD i [] = [] := by simp [List.getD, List.getElem?_eq_none (Nat.le_of_not_lt hi2)]
      rw [this]
      exact ⟨by simp, .inr rfl, rfl⟩
theorem New.apart {h N : H} {p m : Nat} (g : Good h) (k : New h N p m) (i : Nat) (hr : Reach N.f N.r i) : i ≠ p := by
  have old : ∀ zs : List Int, refsB h.l zs = true → (i : Int) ∈ zs → i ≠ p := fun zs hz hi e => by
    rcases refs_bound g hz _ hi with q | ⟨_, _, q⟩
    · omega
    · have := k.d
      rw [← e] at this
      rw [Int.toNat_natCast, this] at q; cases q
  cases hr with
  | root hz => rw [k.r] at hz; exact old _ g.rr hz
  | step _ hz =>
    rename_i y _
    rw [k.f] at hz
    by_cases e : y = p
    · rw [if_pos e] at hz
      have := List.eq_of_mem_replicate hz
      omega
    · rw [if_neg e] at hz
      by_cases hy : y < h.f.length
      · exact old _ (g.row y hy).2.2 hz
      · rw [show h.f.getD y [] = [] by simp [List.getD, List.getElem?_eq_none (Nat.le_of_not_lt hy)]] at hz
        simp at hz
/-- What the law asks of a new object. -/
theorem new_facts {h : H} {m : Int} (hok : newOk h m = true) : good (newP h m).1 = true ∧ (reachR (newP h m).1).length = (newP h m).1.f.length ∧ (newP h m).2 < (newP h m).1.f.length ∧ (newP h m).1.l.length = (newP h m).1.f.length ∧ (reachR (newP h m).1).getD (newP h m).2 false = false ∧ (newP h m).1.l.getD (newP h m).2 false = true ∧ (((newP h m).1.f.getD (newP h m).2 []).length : Int) = m := by
  have hok' := hok
  unfold newOk at hok'
  simp only [Bool.and_eq_true, decide_eq_true_eq] at hok'
  have g := good_iff.1 hok'.1.1.1
  have k := New.of hok
  have gN := k.good g (by omega)
  have hg := good_iff.2 gN
  refine ⟨hg, by rw [reachR_yes hg, reachL_length], k.n.2.2, k.n.1.symm, ?_, by rw [k.l, if_pos rfl], by rw [k.f, if_pos rfl]; simp; omega⟩
  rw [reachR_yes hg]
  cases hq : (reachL (newP h m).1.f (newP h m).1.r).getD (newP h m).2 false with
  | false => rfl
  | true => exact absurd rfl (k.apart g _ (reachL_getD.1 hq).2)
end Go.Proofs.Ytdagkbgobnaijaa.Ph
namespace Go.Proofs.Ytdagkbgobnaijaa.Ph
structure Mv where
  k : Int
  a : Int
  b : Int
  t : Int
def keptB (cs : List Int) : List Bool := cs.map fun x => decide (x ≠ 0)
theorem keptB_len (cs : List Int) : (keptB cs).length = cs.length := by simp [keptB]
theorem keptB_get (cs : List Int) (i : Nat) : (keptB cs).getD i false = decide (cs.getD i 0 ≠ 0) := by
  unfold keptB
  by_cases e : i < cs.length
  · simp [List.getD, List.getElem?_eq_getElem e]
  · simp [List.getD, List.getElem?_eq_none (Nat.le_of_not_lt e)]
def keptR (h : H) (cs : List Int) : List Bool := if bothB h cs = true then keptB cs else []
theorem keptR_len (h : H) (cs : List Int) : (keptR h cs).length ≤ 1000 := by
  unfold keptR
  split
  · next hb => have := bothB_iff.1 hb; have := this.1.n; rw [keptB_len]; omega
  · simp
noncomputable def stepOk (h : H) (cs : List Int) (v : Mv) : Bool :=
  if v.k = 1 then decide (v.b = 0) && decide (v.t = 0) && decide (0 ≤ v.a) && decide (v.a ≤ 100) && !(ofC cs 1).isEmpty
  else if v.k = 2 then liveB (reachL h.f h.r) v.a && refB (reachL h.f h.r) v.t && setFOk h v.a v.b v.t
  else if v.k = 3 then decide (v.b = 0) && refB (reachL h.f h.r) v.t && setROk h v.a v.t
  else if v.k = 4 then decide (v.t = 0) && hasRB h v.b && newOk h v.a
  else false
def greyN (cs : List Int) (a : Int) : Nat := ((ofC cs 1).getD (a.toNat % (ofC cs 1).length) 0).toNat
def newC (cs : List Int) (p : Nat) (fresh : Int) : List Int := (if p = cs.length then cs ++ [0] else cs).set p fresh
def newH (h : H) (a b : Int) : H := ⟨(newP h a).1.f, (newP h a).1.l, (newP h a).1.r.set b.toNat ((newP h a).2 : Int)⟩
def stepH (h : H) (v : Mv) : H :=
  if v.k = 2 then setF h v.a v.b v.t else if v.k = 3 then setR h v.a v.t else if v.k = 4 then newH h v.a v.b else h
def wasOf (h : H) (v : Mv) : Int := if v.k = 2 then (h.f.getD v.a.toNat []).getD v.b.toNat 0 else if v.k = 3 then h.r.getD v.a.toNat 0 else h.r.getD v.b.toNat 0
def stepC (h : H) (cs : List Int) (v : Mv) (put : Bool) : List Int :=
  if v.k = 1 then scan cs (h.f.getD (greyN cs v.a) []) (greyN cs v.a)
  else if v.k = 4 then (if put = true then newC cs (newP h v.a).2 1 else shade (newC cs (newP h v.a).2 2) (wasOf h v))
  else shade cs (if put = true then v.t else wasOf h v)
/-- A scan of the chosen Grey object, where there is one. -/
def scanAt (h : H) (cs : List Int) (a : Int) : List Int := if ofC cs 1 = [] then cs else scan cs (h.f.getD (greyN cs a) []) (greyN cs a)
theorem scanAt_no {h : H} {cs : List Int} {a : Int} (e : ofC cs 1 = []) : scanAt h cs a = cs := by unfold scanAt; rw [if_pos e]
theorem scanAt_yes {h : H} {cs : List Int} {a : Int} (e : ofC cs 1 ≠ []) : scanAt h cs a = scan cs (h.f.getD (greyN cs a) []) (greyN cs a) := by unfold scanAt; rw [if_neg e]
theorem scanAt_len (h : H) (cs : List Int) (a : Int) : (scanAt h cs a).length = cs.length := by
  unfold scanAt; split
  · rfl
  · rw [scan_len]
theorem Col.scanAt {h : H} {cs : List Int} (hc : Col cs) (a : Int) : Col (scanAt h cs a) := by
  unfold Ph.scanAt; split
  · exact hc
  · exact hc.scan _ _
theorem greyN_is {cs : List Int} (hn : ofC cs 1 ≠ []) (a : Int) : greyN cs a < cs.length ∧ cs.getD (greyN cs a) 0 = 1 := by
  have h0 : 0 < (ofC cs 1).length := List.length_pos_iff.2 hn
  have hm : (ofC cs 1).getD (a.toNat % (ofC cs 1).length) 0 ∈ ofC cs 1 := getD_memI (Nat.mod_lt _ h0)
  obtain ⟨i, hi, h1, e⟩ := mem_ofC.1 hm
  unfold greyN
  rw [e, Int.toNat_natCast]
  exact ⟨hi, h1⟩
theorem scan_get {cs : List Int} {k : Nat} (hk : k < cs.length) (zs : List Int) (i : Nat) : (scan cs zs k).getD i 0 = if i = k then 2 else if cs.getD i 0 = 0 ∧ i < cs.length ∧ (i : Int) ∈ zs then 1 else cs.getD i 0 := by
  unfold scan
  rw [shades_get, getD_setI hk, List.length_set]
  by_cases e : i = k
  · rw [if_pos e, if_pos e, if_neg (by omega)]
  · rw [if_neg e, if_neg e]
theorem newC_len (cs : List Int) (p : Nat) (x : Int) : (newC cs p x).length = if p = cs.length then cs.length + 1 else cs.length := by
  unfold newC
  split <;> simp
theorem newC_get {cs : List Int} {p : Nat} (hp : p ≤ cs.length) (x : Int) (i : Nat) : (newC cs p x).getD i 0 = if i = p then x else cs.getD i 0 := by
  unfold newC
  by_cases e : p = cs.length
  · rw [if_pos e, getD_setI (by simp; omega)]
    by_cases q : i = p
    · rw [if_pos q, if_pos q]
    · rw [if_neg q, if_neg q]
      by_cases r : i < cs.length
      · simp [List.getD, List.getElem?_append_left r]
      · rw [getD_outI r, getD_outI (by simp; omega)]
  · rw [if_neg e, getD_setI (by omega)]
/-- What stays as dark as it was. -/
theorem shade_up (cs : List Int) (z : Int) (i : Nat) : cs.getD i 0 ≤ (shade cs z).getD i 0 := by
  rw [shade_get]; split <;> omega
theorem shade_ne {cs : List Int} {z : Int} {i : Nat} (h : cs.getD i 0 ≠ 0) : (shade cs z).getD i 0 = cs.getD i 0 := by
  rw [shade_get, if_neg (fun q => h q.1)]
theorem shade_two {cs : List Int} {z : Int} {i : Nat} : (shade cs z).getD i 0 = 2 ↔ cs.getD i 0 = 2 := by
  rw [shade_get]
  by_cases q : cs.getD i 0 = 0 ∧ i < cs.length ∧ z = i
  · rw [if_pos q]; constructor <;> intro <;> omega
  · rw [if_neg q]
theorem shade_on {cs : List Int} {i : Nat} (hi : i < cs.length) : (shade cs (i : Int)).getD i 0 ≠ 0 := by
  rw [shade_get]
  by_cases q : cs.getD i 0 = 0
  · rw [if_pos ⟨q, hi, rfl⟩]; omega
  · rw [if_neg (fun k => q k.1)]; exact q
/-- What a marking comes to: what is dark, and what the fields of what is not yet Black lead to from there. -/
inductive Prot (fs : List (List Int)) (cs : List Int) : Nat → Prop
  | dark {i : Nat} : cs.getD i 0 ≠ 0 → Prot fs cs i
  | step {g i : Nat} : cs.getD g 0 ≠ 2 → Prot fs cs g → (i : Int) ∈ fs.getD g [] → Prot fs cs i
structure InvS (h : H) (cs : List Int) : Prop where
  root : ∀ i : Nat, (i : Int) ∈ h.r → Prot h.f cs i
  blk : ∀ g i : Nat, cs.getD g 0 = 2 → (i : Int) ∈ h.f.getD g [] → Prot h.f cs i
theorem InvS.closed {h : H} {cs : List Int} (k : InvS h cs) {g i : Nat} (hg : Prot h.f cs g) (hi : (i : Int) ∈ h.f.getD g []) : Prot h.f cs i := by
  by_cases e : cs.getD g 0 = 2
  · exact k.blk g i e hi
  · exact .step e hg hi
theorem InvS.reach {h : H} {cs : List Int} (k : InvS h cs) {i : Nat} (hi : Reach h.f h.r i) : Prot h.f cs i := by
  induction hi with
  | root hz => exact k.root _ hz
  | step _ hz ih => exact k.closed ih hz
theorem InvS.start {h : H} (g : Good h) : InvS h (startC h) := by
  have m := Mk.start g
  exact ⟨fun i hi => .dark (m.root i hi), fun g i hg hi => .dark (m.snd g hg i hi)⟩
theorem Prot.mono {fs fs' : List (List Int)} {cs cs' : List Int} (h1 : ∀ i, cs.getD i 0 ≠ 0 → Prot fs' cs' i) (h2 : ∀ g i : Nat, cs.getD g 0 ≠ 2 → Prot fs' cs' g → (i : Int) ∈ fs.getD g [] → Prot fs' cs' i) {i : Nat} (hi : Prot fs cs i) : Prot fs' cs' i := by
  induction hi with
  | dark h => exact h1 _ h
  | step h _ hz ih => exact h2 _ _ h ih hz
theorem InvS.scan {h : H} {cs : List Int} {k : Nat} (G : Good h) (hl : cs.length = h.f.length) (s : InvS h cs) (hk : k < cs.length) : (∀ i, Prot h.f cs i → Prot h.f (scan cs (h.f.getD k []) k) i) ∧ InvS h (scan cs (h.f.getD k []) k) := by
  have get := scan_get hk (h.f.getD k [])
  have up : ∀ i, cs.getD i 0 ≠ 0 → (Ph.scan cs (h.f.getD k []) k).getD i 0 ≠ 0 := fun i hi => by
    rw [get]
    by_cases e : i = k
    · rw [if_pos e]; omega
    · rw [if_neg e, if_neg (fun q => hi q.1)]; exact hi
  have kid : ∀ i : Nat, (i : Int) ∈ h.f.getD k [] → (Ph.scan cs (h.f.getD k []) k).getD i 0 ≠ 0 := fun i hi => by
    rw [get]
    by_cases e : i = k
    · rw [if_pos e]; omega
    · rw [if_neg e]
      by_cases q : cs.getD i 0 = 0
      · rw [if_pos ⟨q, by rw [hl]; exact G.fieldIn hi, hi⟩]; omega
      · rw [if_neg (fun k => q k.1)]; exact q
  have mono : ∀ i, Prot h.f cs i → Prot h.f (Ph.scan cs (h.f.getD k []) k) i := fun i hi => hi.mono (fun i h => .dark (up i h)) fun g i h1 h2 h3 => by
    by_cases e : g = k
    · subst e; exact .dark (kid i h3)
    · refine .step ?_ h2 h3
      rw [get, if_neg e]
      split <;> omega
  refine ⟨mono, fun i hi => mono i (s.root i hi), fun g i hg hi => ?_⟩
  by_cases e : g = k
  · subst e; exact .dark (kid i hi)
  · rw [get, if_neg e] at hg
    by_cases q : cs.getD g 0 = 0 ∧ g < cs.length ∧ (g : Int) ∈ h.f.getD k []
    · rw [if_pos q] at hg; omega
    · rw [if_neg q] at hg; exact mono i (s.blk g i hg hi)
theorem InvS.shade {h : H} {cs : List Int} (s : InvS h cs) (z : Int) : (∀ i, Prot h.f cs i → Prot h.f (shade cs z) i) ∧ InvS h (shade cs z) := by
  have mono : ∀ i, Prot h.f cs i → Prot h.f (Ph.shade cs z) i := fun i hi => hi.mono (fun i h => .dark (by rw [shade_ne h]; exact h)) fun g i h1 h2 h3 => .step (fun q => h1 (shade_two.1 q)) h2 h3
  exact ⟨mono, fun i hi => mono i (s.root i hi), fun g i hg hi => mono i (s.blk g i (shade_two.1 hg) hi)⟩
end Go.Proofs.Ytdagkbgobnaijaa.Ph
namespace Go.Proofs.Ytdagkbgobnaijaa.Ph
theorem mem_setI {zs : List Int} {k : Nat} {x z : Int} (h : z ∈ zs.set k x) : z ∈ zs ∨ z = x := List.mem_or_eq_of_mem_set h
theorem mem_set_keep {zs : List Int} {k : Nat} {x z : Int} (h : z ∈ zs) : z ∈ zs.set k x ∨ z = zs.getD k 0 := by
  obtain ⟨i, hi, rfl⟩ := List.mem_iff_getElem.1 h
  by_cases e : i = k
  · subst e; right; simp [List.getD, List.getElem?_eq_getElem hi]
  · left
    have : (zs.set k x)[i]'(by simpa using hi) = zs[i] := by rw [List.getElem_set_ne (fun q => e q.symm)]
    rw [← this]; exact List.getElem_mem _
theorem liveR_iff {h : H} {z : Int} : liveB (reachL h.f h.r) z = true ↔ 0 ≤ z ∧ z.toNat < h.f.length ∧ Reach h.f h.r z.toNat := by
  rw [liveB_iff, reachL_getD]
theorem refR_iff {h : H} {z : Int} : refB (reachL h.f h.r) z = true ↔ z = -1 ∨ (0 ≤ z ∧ z.toNat < h.f.length ∧ Reach h.f h.r z.toNat) := by
  rw [refB_iff, liveR_iff]
/-- What a field is set to leaves a heap good. -/
theorem setF_good {h : H} {t f z : Int} (hok : setFOk h t f z = true) : Good (setF h t f z) := by
  obtain ⟨tn, fn, rfl, rfl, h1, h2, e1, e2, e3, ef, hg⟩ := setF_facts hok
  have g := good_iff.1 hg
  have hok' := hok
  unfold setFOk at hok'
  simp only [Bool.and_eq_true] at hok'
  have hz := hok'.2
  have hl : (setF h tn fn z).l = h.l := by rw [setF_yes hok]
  have hr : (setF h tn fn z).r = h.r := by rw [setF_yes hok]
  refine ⟨by rw [e1]; exact g.n, by rw [e1, e2]; exact g.ll, fun i hi => ?_, by rw [hr]; exact g.rn, by rw [hl, hr]; exact g.rr⟩
  rw [e1] at hi
  rw [ef, hl]
  by_cases e : i = tn
  · rw [if_pos e]
    have r := g.row tn h1
    refine ⟨by rw [List.length_set]; exact r.1, ?_, ?_⟩
    · rcases r.2.1 with q | q
      · left; rw [e]; exact q
      · rw [q] at h2; simp at h2
    · rw [refsB_iff]
      intro y hy
      rcases mem_setI hy with q | q
      · exact (refsB_iff.1 r.2.2) y q
      · rw [q]; exact hz
  · rw [if_neg e]; exact g.row i hi
theorem setR_good {h : H} {k z : Int} (hok : setROk h k z = true) : Good (setR h k z) ∧ 0 ≤ k ∧ k.toNat < h.r.length ∧ Good h := by
  have hok' := hok
  unfold setROk hasRB at hok'
  simp only [Bool.and_eq_true, decide_eq_true_eq] at hok'
  have g := good_iff.1 hok'.1.1
  rw [setR_yes hok]
  refine ⟨⟨g.n, g.ll, g.row, by simp only [List.length_set]; exact g.rn, ?_⟩, hok'.1.2.1, by omega, g⟩
  simp only
  rw [refsB_iff]
  intro y hy
  rcases mem_setI hy with q | q
  · exact (refsB_iff.1 g.rr) y q
  · rw [q]; exact hok'.2
theorem New.goodR {h N : H} {p m : Nat} (g : Good h) (hm : m ≤ 3) (k : New h N p m) (b : Nat) : Good ⟨N.f, N.l, N.r.set b (p : Int)⟩ := by
  have q := k.good g hm
  refine ⟨q.n, q.ll, q.row, by simp only [List.length_set]; exact q.rn, ?_⟩
  simp only
  rw [refsB_iff]
  intro y hy
  rcases mem_setI hy with e | e
  · exact (refsB_iff.1 q.rr) y e
  · rw [e]
    refine refB_iff.2 (.inr (liveB_iff.2 ⟨by omega, ?_⟩))
    rw [Int.toNat_natCast, k.l, if_pos rfl]
theorem newOk_iff {h : H} {m : Int} (hok : newOk h m = true) : Good h ∧ 0 ≤ m ∧ m ≤ 3 := by
  unfold newOk at hok
  simp only [Bool.and_eq_true, decide_eq_true_eq] at hok
  exact ⟨good_iff.1 hok.1.1.1, hok.1.1.2, hok.1.2⟩
theorem newP_place {h : H} {m : Int} (hok : newOk h m = true) : (newP h m).2 ≤ h.f.length ∧ (newP h m).1.f.length = if (newP h m).2 = h.f.length then h.f.length + 1 else h.f.length := by
  have g := (newOk_iff hok).1
  have hle := place_le h.l
  have hll := g.ll
  rw [newP_yes hok]
  simp only
  refine ⟨by omega, ?_⟩
  unfold put1 grown1
  by_cases hp : placeOf h.l < h.l.length
  · rw [if_pos hp, if_neg (by omega)]; simp
  · rw [if_neg hp, if_pos (by omega)]; simp
/-- Kinds of moves, as cases. -/
theorem step_cases {h : H} {cs : List Int} {v : Mv} (hok : stepOk h cs v = true) :
    (v.k = 1 ∧ v.b = 0 ∧ v.t = 0 ∧ 0 ≤ v.a ∧ v.a ≤ 100 ∧ ofC cs 1 ≠ []) ∨ (v.k = 2 ∧ liveB (reachL h.f h.r) v.a = true ∧ refB (reachL h.f h.r) v.t = true ∧ setFOk h v.a v.b v.t = true) ∨ (v.k = 3 ∧ v.b = 0 ∧ refB (reachL h.f h.r) v.t = true ∧ setROk h v.a v.t = true) ∨ (v.k = 4 ∧ v.t = 0 ∧ hasRB h v.b = true ∧ newOk h v.a = true) := by
  unfold stepOk at hok
  split at hok
  · next e =>
    simp only [Bool.and_eq_true, decide_eq_true_eq, Bool.not_eq_true', List.isEmpty_eq_false_iff] at hok
    exact .inl ⟨e, hok.1.1.1.1, hok.1.1.1.2, hok.1.1.2, hok.1.2, hok.2⟩
  · split at hok
    · next e =>
      simp only [Bool.and_eq_true] at hok
      exact .inr (.inl ⟨e, hok.1.1, hok.1.2, hok.2⟩)
    · split at hok
      · next e =>
        simp only [Bool.and_eq_true, decide_eq_true_eq] at hok
        exact .inr (.inr (.inl ⟨e, hok.1.1, hok.1.2, hok.2⟩))
      · split at hok
        · next e =>
          simp only [Bool.and_eq_true, decide_eq_true_eq] at hok
          exact .inr (.inr (.inr ⟨e, hok.1.1, hok.1.2, hok.2⟩))
        · cases hok
theorem stepH1 {h : H} {v : Mv} (e : v.k = 1) : stepH h v = h := by unfold stepH; rw [if_neg (by omega), if_neg (by omega), if_neg (by omega)]
theorem stepH2 {h : H} {v : Mv} (e : v.k = 2) : stepH h v = setF h v.a v.b v.t := by unfold stepH; rw [if_pos e]
theorem stepH3 {h : H} {v : Mv} (e : v.k = 3) : stepH h v = setR h v.a v.t := by unfold stepH; rw [if_neg (by omega), if_pos e]
theorem stepH4 {h : H} {v : Mv} (e : v.k = 4) : stepH h v = newH h v.a v.b := by unfold stepH; rw [if_neg (by omega), if_neg (by omega), if_pos e]
theorem stepC1 {h : H} {cs : List Int} {v : Mv} {put : Bool} (e : v.k = 1) : stepC h cs v put = scan cs (h.f.getD (greyN cs v.a) []) (greyN cs v.a) := by unfold stepC; rw [if_pos e]
theorem stepC23 {h : H} {cs : List Int} {v : Mv} {put : Bool} (e : v.k = 2 ∨ v.k = 3) : stepC h cs v put = shade cs (if put = true then v.t else wasOf h v) := by unfold stepC; rw [if_neg (by omega), if_neg (by omega)]
theorem stepC4 {h : H} {cs : List Int} {v : Mv} {put : Bool} (e : v.k = 4) : stepC h cs v put = (if put = true then newC cs (newP h v.a).2 1 else shade (newC cs (newP h v.a).2 2) (wasOf h v)) := by unfold stepC; rw [if_neg (by omega), if_pos e]
theorem Col.newC {cs : List Int} (hc : Col cs) {p : Nat} (hp : p ≤ cs.length) {x : Int} (h0 : 0 ≤ x) (h2 : x ≤ 2) : Col (newC cs p x) := fun i => by
  rw [newC_get hp]
  split
  · exact ⟨h0, h2⟩
  · exact hc i
/-- A move leaves a good marking good. -/
theorem step_good {h : H} {cs : List Int} {v : Mv} (put : Bool) (hb : bothB h cs = true) (hok : stepOk h cs v = true) : bothB (stepH h v) (stepC h cs v put) = true := by
  obtain ⟨g, hl, hc⟩ := bothB_iff.1 hb
  rw [bothB_iff]
  rcases step_cases hok with ⟨e, _⟩ | ⟨e, _, _, q⟩ | ⟨e, _, _, q⟩ | ⟨e, _, _, q⟩
  · rw [stepH1 e, stepC1 e]; exact ⟨g, by rw [scan_len, hl], hc.scan _ _⟩
  · rw [stepH2 e, stepC23 (.inl e)]; exact ⟨setF_good q, by rw [shade_len, hl]; obtain ⟨_, _, _, _, _, _, e1, _⟩ := setF_facts q; exact e1.symm, hc.shade _⟩
  · rw [stepH3 e, stepC23 (.inr e)]; exact ⟨(setR_good q).1, by rw [shade_len, hl, setR_yes q], hc.shade _⟩
  · have k := New.of q
    obtain ⟨_, m0, m3⟩ := newOk_iff q
    obtain ⟨p1, p2⟩ := newP_place q
    rw [stepH4 e, stepC4 e]
    refine ⟨k.goodR g (by omega) _, ?_, ?_⟩
    · have : (newH h v.a v.b).f.length = if (newP h v.a).2 = h.f.length then h.f.length + 1 else h.f.length := p2
      rw [this]
      split
      · rw [newC_len, hl]
      · rw [shade_len, newC_len, hl]
    · split
      · exact hc.newC (by omega) (by omega) (by omega)
      · exact (hc.newC (by omega) (by omega) (by omega)).shade _
/-- A move with the snapshot's barrier: what a marking comes to, it still comes to. -/
theorem step_prot {h : H} {cs : List Int} {v : Mv} (hb : bothB h cs = true) (hok : stepOk h cs v = true) (s : InvS h cs) : (∀ i, Prot h.f cs i → Prot (stepH h v).f (stepC h cs v false) i) ∧ InvS (stepH h v) (stepC h cs v false) := by
  obtain ⟨g, hl, hc⟩ := bothB_iff.1 hb
  rcases step_cases hok with ⟨e, _, _, _, _, q⟩ | ⟨e, ha, ht, q⟩ | ⟨e, _, ht, q⟩ | ⟨e, _, hrb, q⟩
  · rw [stepH1 e, stepC1 e]; exact s.scan g hl (greyN_is q _).1
  · rw [stepH2 e, stepC23 (.inl e), if_neg (by decide)]
    have hw : wasOf h v = (h.f.getD v.a.toNat []).getD v.b.toNat 0 := by unfold wasOf; rw [if_pos e]
    rw [hw]
    obtain ⟨tn, fn, ea, eb, h1, h2, _, _, _, ef, _⟩ := setF_facts q
    rw [ea, eb, Int.toNat_natCast, Int.toNat_natCast]
    rw [ea, eb] at ef
    have hr : (setF h tn fn v.t).r = h.r := by rw [ea, eb] at q; rw [setF_yes q]
    generalize hW : (h.f.getD tn []).getD fn 0 = W
    have mono : ∀ i, Prot h.f cs i → Prot (setF h tn fn v.t).f (shade cs W) i := fun i hi => hi.mono (fun i k => .dark (by rw [shade_ne k]; exact k)) fun y i k1 k2 k3 => by
      by_cases ey : y = tn
      · subst ey
        rcases mem_set_keep (k := fn) (x := v.t) k3 with r | r
        · exact .step (fun r => k1 (shade_two.1 r)) k2 (by rw [ef, if_pos rfl]; exact r)
        · rw [hW] at r
          rw [← r]
          exact .dark (shade_on (by rw [hl]; exact g.fieldIn k3))
      · exact .step (fun r => k1 (shade_two.1 r)) k2 (by rw [ef, if_neg ey]; exact k3)
    refine ⟨mono, fun i hi => mono i (s.root i (by rw [hr] at hi; exact hi)), fun y i k1 k2 => ?_⟩
    have k1' := shade_two.1 k1
    rw [ef] at k2
    by_cases ey : y = tn
    · subst ey
      rw [if_pos rfl] at k2
      rcases mem_setI k2 with r | r
      · exact mono i (s.blk _ i k1' r)
      · refine mono i (s.reach ?_)
        rcases refR_iff.1 ht with t | ⟨_, _, t⟩
        · omega
        · rw [← r, Int.toNat_natCast] at t; exact t
    · rw [if_neg ey] at k2; exact mono i (s.blk y i k1' k2)
  · rw [stepH3 e, stepC23 (.inr e), if_neg (by decide)]
    obtain ⟨m1, s1⟩ := s.shade (wasOf h v)
    rw [setR_yes q]
    refine ⟨m1, fun i hi => ?_, s1.blk⟩
    simp only at hi ⊢
    rcases mem_setI hi with r | r
    · exact s1.root i r
    · refine s1.reach ?_
      rcases refR_iff.1 ht with t | ⟨_, _, t⟩
      · omega
      · rw [← r, Int.toNat_natCast] at t; exact t
  · rw [stepH4 e, stepC4 e, if_neg (by decide)]
    have k := New.of q
    obtain ⟨_, m0, m3⟩ := newOk_iff q
    obtain ⟨p1, p2⟩ := newP_place q
    generalize wasOf h v = W
    have get := newC_get (cs := cs) (p := (newP h v.a).2) (by omega) 2
    have hF : (newH h v.a v.b).f = (newP h v.a).1.f := rfl
    have hR : (newH h v.a v.b).r = h.r.set v.b.toNat ((newP h v.a).2 : Int) := by unfold newH; simp only; rw [k.r]
    rw [hF]
    generalize hp : (newP h v.a).2 = p at *
    have pd : (shade (newC cs p 2) W).getD p 0 ≠ 0 := by
      have : (newC cs p 2).getD p 0 = 2 := by rw [get, if_pos rfl]
      rw [shade_ne (by omega)]; omega
    have hdead : ∀ i : Nat, (i : Int) ∈ h.f.getD p [] → False := fun i hi => by
      by_cases hpl : p < h.f.length
      · rcases (g.row p hpl).2.1 with r | r
        · have := k.d; rw [this] at r; cases r
        · rw [r] at hi; simp at hi
      · rw [show h.f.getD p [] = [] by simp [List.getD, List.getElem?_eq_none (Nat.le_of_not_lt hpl)]] at hi; simp at hi
    have mono : ∀ i, Prot h.f cs i → Prot (newP h v.a).1.f (shade (newC cs p 2) W) i := fun i hi => hi.mono (fun i k => by
        by_cases ei : i = p
        · rw [ei]; exact .dark pd
        · refine .dark ?_
          have : (newC cs p 2).getD i 0 = cs.getD i 0 := by rw [get, if_neg ei]
          rw [shade_ne (by omega)]; omega) fun y i k1 k2 k3 => by
      by_cases ey : y = p
      · subst ey; exact (hdead i k3).elim
      · refine .step (fun r => ?_) k2 (by rw [k.f, if_neg ey]; exact k3)
        have := shade_two.1 r
        rw [get, if_neg ey] at this
        exact k1 this
    refine ⟨mono, fun i hi => ?_, fun y i k1 k2 => ?_⟩
    · rw [hR] at hi
      rcases mem_setI hi with r | r
      · exact mono i (s.root i r)
      · rw [show i = p by omega]; exact .dark pd
    · rw [hF, k.f] at k2
      by_cases ey : y = p
      · rw [if_pos ey] at k2
        have := List.eq_of_mem_replicate k2
        omega
      · rw [if_neg ey] at k2
        have := shade_two.1 k1
        rw [get, if_neg ey] at this
        exact mono i (s.blk y i this k2)
/-- With the other barrier: what is Black names nothing White. -/
def InvP (h : H) (cs : List Int) : Prop := ∀ g i : Nat, cs.getD g 0 = 2 → (i : Int) ∈ h.f.getD g [] → cs.getD i 0 ≠ 0
theorem InvP.start {h : H} (g : Good h) : InvP h (startC h) := fun y i k1 k2 => (Mk.start g).snd y k1 i k2
theorem InvP.shade {h : H} {cs : List Int} (s : InvP h cs) (z : Int) : InvP h (shade cs z) := fun y i k1 k2 => by
  have := s y i (shade_two.1 k1) k2
  rw [shade_ne this]; exact this
theorem InvP.shades {h : H} (zs : List Int) : ∀ {cs : List Int}, InvP h cs → InvP h (shades cs zs) := by
  induction zs with
  | nil => intro cs s; exact s
  | cons z zs ih => intro cs s; rw [shades_cons]; exact ih (s.shade z)
theorem step_put {h : H} {cs : List Int} {v : Mv} (hb : bothB h cs = true) (hok : stepOk h cs v = true) (s : InvP h cs) : InvP (stepH h v) (stepC h cs v true) := by
  obtain ⟨g, hl, hc⟩ := bothB_iff.1 hb
  rcases step_cases hok with ⟨e, _, _, _, _, q⟩ | ⟨e, ha, ht, q⟩ | ⟨e, _, ht, q⟩ | ⟨e, _, hrb, q⟩
  · rw [stepH1 e, stepC1 e]
    have hk := (greyN_is q v.a).1
    generalize greyN cs v.a = k at *
    have get := scan_get hk (h.f.getD k [])
    intro y i k1 k2
    rw [get] at k1 ⊢
    by_cases ei : i = k
    · rw [if_pos ei]; omega
    · rw [if_neg ei]
      by_cases ey : y = k
      · subst ey
        by_cases r : cs.getD i 0 = 0
        · rw [if_pos ⟨r, by rw [hl]; exact g.fieldIn k2, k2⟩]; omega
        · rw [if_neg (fun t => r t.1)]; exact r
      · rw [if_neg ey] at k1
        by_cases r : cs.getD y 0 = 0 ∧ y < cs.length ∧ (y : Int) ∈ h.f.getD k []
        · rw [if_pos r] at k1; omega
        · rw [if_neg r] at k1
          have t := s y i k1 k2
          rw [if_neg (fun u => t u.1)]; exact t
  · rw [stepH2 e, stepC23 (.inl e), if_pos rfl]
    obtain ⟨tn, fn, ea, eb, h1, h2, _, _, _, ef, _⟩ := setF_facts q
    intro y i k1 k2
    rw [ef] at k2
    have k1' := shade_two.1 k1
    by_cases ey : y = tn
    · subst ey
      rw [if_pos rfl] at k2
      rcases mem_setI k2 with r | r
      · have := s _ i k1' r
        rw [shade_ne this]; exact this
      · rcases refR_iff.1 ht with t | ⟨_, t, _⟩
        · omega
        · rw [← r] at t ⊢; exact shade_on (by rw [hl]; omega)
    · rw [if_neg ey] at k2
      have := s y i k1' k2
      rw [shade_ne this]; exact this
  · rw [stepH3 e, stepC23 (.inr e), if_pos rfl, setR_yes q]
    exact s.shade _
  · rw [stepH4 e, stepC4 e, if_pos rfl]
    have k := New.of q
    obtain ⟨p1, p2⟩ := newP_place q
    have get := newC_get (cs := cs) (p := (newP h v.a).2) (by omega) 1
    have hF : (newH h v.a v.b).f = (newP h v.a).1.f := rfl
    intro y i k1 k2
    rw [hF, k.f] at k2
    rw [get] at k1 ⊢
    by_cases ey : y = (newP h v.a).2
    · rw [if_pos ey] at k1; omega
    · rw [if_neg ey] at k1 k2
      split
      · omega
      · exact s y i k1 k2
/-- What lives is no lighter behind a move. -/
theorem step_up {h : H} {cs : List Int} {v : Mv} (put : Bool) (hb : bothB h cs = true) (hok : stepOk h cs v = true) (i : Nat) (hi : h.l.getD i false = true) : cs.getD i 0 ≤ (stepC h cs v put).getD i 0 := by
  obtain ⟨g, hl, hc⟩ := bothB_iff.1 hb
  rcases step_cases hok with ⟨e, _, _, _, _, q⟩ | ⟨e, ha, ht, q⟩ | ⟨e, _, ht, q⟩ | ⟨e, _, hrb, q⟩
  · rw [stepC1 e, scan_get (greyN_is q v.a).1]
    have := hc i
    split
    · omega
    · split <;> omega
  · rw [stepC23 (.inl e)]; exact shade_up _ _ _
  · rw [stepC23 (.inr e)]; exact shade_up _ _ _
  · have k := New.of q
    obtain ⟨p1, p2⟩ := newP_place q
    have ne : i ≠ (newP h v.a).2 := fun r => by have := k.d; rw [← r, hi] at this; cases this
    rw [stepC4 e]
    split
    · rw [newC_get (by omega), if_neg ne]; exact Int.le_refl _
    · have : (newC cs (newP h v.a).2 2).getD i 0 = cs.getD i 0 := by rw [newC_get (by omega), if_neg ne]
      rw [← this]
      exact shade_up _ _ _
end Go.Proofs.Ytdagkbgobnaijaa.Ph
namespace Go.Proofs.Ytdagkbgobnaijaa.Ph
/-- The first Grey object is scanned. -/
def scanF (h : H) (cs : List Int) : List Int := scanAt h cs 0
def finN (h : H) (cs : List Int) : Nat → List Int
  | 0 => cs
  | n + 1 => scanF h (finN h cs n)
def finC (h : H) (cs : List Int) : List Int := finN h cs 12
theorem scanF_no {h : H} {cs : List Int} (e : ofC cs 1 = []) : scanF h cs = cs := scanAt_no e
theorem scanF_yes {h : H} {cs : List Int} (e : ofC cs 1 ≠ []) : scanF h cs = scan cs (h.f.getD (greyN cs 0) []) (greyN cs 0) := scanAt_yes e
theorem scanF_len (h : H) (cs : List Int) : (scanF h cs).length = cs.length := scanAt_len _ _ _
theorem Col.scanF {h : H} {cs : List Int} (hc : Col cs) : Col (scanF h cs) := hc.scanAt _
theorem finN_len (h : H) (cs : List Int) (n : Nat) : (finN h cs n).length = cs.length := by
  induction n with
  | zero => rfl
  | succ n ih => simp only [finN]; rw [scanF_len, ih]
theorem Col.finN {h : H} {cs : List Int} (hc : Col cs) (n : Nat) : Col (finN h cs n) := by
  induction n with
  | zero => exact hc
  | succ n ih => exact ih.scanF
theorem finN_stop {h : H} {cs : List Int} {n : Nat} (e : ofC (finN h cs n) 1 = []) (m : Nat) : finN h cs (n + m) = finN h cs n := by
  induction m with
  | zero => rfl
  | succ m ih => rw [← Nat.add_assoc]; simp only [finN]; rw [ih, scanF_no e]
theorem finC_stop {h : H} {cs : List Int} {n : Nat} (e : ofC (finN h cs n) 1 = []) (hn : n ≤ 12) : finC h cs = finN h cs n := by
  have := finN_stop e (12 - n)
  rw [Nat.add_sub_cancel' hn] at this
  exact this
theorem blk_scanF {h : H} {cs : List Int} (hl : cs.length = h.f.length) (e : ofC cs 1 ≠ []) : blk (scanF h cs) h.f.length = blk cs h.f.length + 1 := by
  obtain ⟨hk, h1⟩ := greyN_is e 0
  rw [scanF_yes e]
  generalize greyN cs 0 = k at *
  have get := scan_get hk (h.f.getD k [])
  rw [blk_one (cs := cs) (k := k) (by omega) (by rw [get, if_pos rfl]) (fun i ne => ?_), if_pos (by omega)]
  rw [get, if_neg ne]
  by_cases q : cs.getD i 0 = 0 ∧ i < cs.length ∧ (i : Int) ∈ h.f.getD k []
  · rw [if_pos q]; constructor <;> intro <;> omega
  · rw [if_neg q]
theorem finN_blk {h : H} {cs : List Int} (hl : cs.length = h.f.length) (n : Nat) (hn : ∀ m, m < n → ofC (finN h cs m) 1 ≠ []) : n ≤ blk (finN h cs n) h.f.length := by
  induction n with
  | zero => omega
  | succ n ih =>
    have := ih fun m hm => hn m (by omega)
    have e := blk_scanF (h := h) (cs := finN h cs n) (by rw [finN_len, hl]) (hn n (by omega))
    simp only [finN]; omega
theorem finC_done {h : H} {cs : List Int} (hl : cs.length = h.f.length) (h12 : h.f.length ≤ 12) : ofC (finC h cs) 1 = [] := by
  by_cases q : ∃ m, m < 13 ∧ ofC (finN h cs m) 1 = []
  · obtain ⟨m, hm, e⟩ := q
    rw [finC_stop e (by omega)]; exact e
  · have := finN_blk (h := h) hl 13 fun m hm e => q ⟨m, hm, e⟩
    have := blk_le (finN h cs 13) h.f.length
    omega
/-- Whatever the scans keep, the end keeps. -/
theorem fin_keeps {h : H} {P : List Int → Prop} (hs : ∀ cs, cs.length = h.f.length → P cs → ofC cs 1 ≠ [] → P (scan cs (h.f.getD (greyN cs 0) []) (greyN cs 0))) {cs : List Int} (hl : cs.length = h.f.length) (h0 : P cs) (n : Nat) : P (finN h cs n) := by
  induction n with
  | zero => exact h0
  | succ n ih =>
    simp only [finN]
    by_cases e : ofC (finN h cs n) 1 = []
    · rw [scanF_no e]; exact ih
    · rw [scanF_yes e]; exact hs _ (by rw [finN_len, hl]) ih e
def cols0 (h : H) (cs : List Int) (put : Bool) : List Int := if put = true then shades cs h.r else cs
theorem cols0_len (h : H) (cs : List Int) (put : Bool) : (cols0 h cs put).length = cs.length := by unfold cols0; split; exact shades_len _ _; rfl
theorem Col.cols0 {h : H} {cs : List Int} (hc : Col cs) (put : Bool) : Col (cols0 h cs put) := by unfold Ph.cols0; split; exact hc.shades; exact hc
def endC7 (h : H) (cs : List Int) (put : Bool) : List Int := finC h (cols0 h cs put)
theorem endC7_len (h : H) (cs : List Int) (put : Bool) : (endC7 h cs put).length = cs.length := by unfold endC7 finC; rw [finN_len, cols0_len]
def endM (h : H) (cs : List Int) (put : Bool) : H × List Int × Nat :=
  if bothB h cs = true then ((keepTo h (keptB (endC7 h cs put)) h.f.length).1, endC7 h cs put, (keepTo h (keptB (endC7 h cs put)) h.f.length).2) else (⟨[], [], []⟩, [], 0)
theorem endM_yes {h : H} {cs : List Int} (put : Bool) (hb : bothB h cs = true) : endM h cs put = ((keepTo h (keptB (endC7 h cs put)) h.f.length).1, endC7 h cs put, (keepTo h (keptB (endC7 h cs put)) h.f.length).2) := by unfold endM; rw [if_pos hb]
theorem endM_no {h : H} {cs : List Int} (put : Bool) (hb : bothB h cs = false) : endM h cs put = (⟨[], [], []⟩, [], 0) := by unfold endM; rw [hb]; rfl
/-- The sizes of what is kept. -/
theorem keep_small {h : H} (g : Good h) (ks : List Bool) (n : Nat) : (keepTo h ks n).1.f.length = h.f.length ∧ (keepTo h ks n).1.l.length = h.f.length ∧ (keepTo h ks n).1.r = h.r ∧ (∀ i, ((keepTo h ks n).1.f.getD i []).length ≤ 3) := by
  refine ⟨(keepTo_len h ks n).1, by rw [(keepTo_len h ks n).2.1, g.ll], (keepTo_len h ks n).2.2.1, ?_⟩
  have row : ∀ i, (h.f.getD i []).length ≤ 3 := fun i => by
    by_cases hi : i < h.f.length
    · exact (g.row i hi).1
    · rw [show h.f.getD i [] = [] by simp [List.getD, List.getElem?_eq_none (Nat.le_of_not_lt hi)]]; simp
  induction n with
  | zero => exact row
  | succ n ih =>
    intro i
    simp only [keepTo, keepStep]
    split
    · simp only
      by_cases q : n < (keepTo h ks n).1.f.length
      · rw [getD_setL q]; split
        · simp
        · exact ih i
      · rw [List.set_eq_of_length_le (by omega)]; exact ih i
    · exact ih i
theorem endM_wt (h : H) (cs : List Int) (put : Bool) : wtH (endM h cs put).1 + (endM h cs put).2.1.length ≤ 2000 := by
  cases hb : bothB h cs with
  | false => rw [endM_no put hb]; decide
  | true =>
    rw [endM_yes put hb]
    simp only
    obtain ⟨g, hl, _⟩ := bothB_iff.1 hb
    obtain ⟨e1, e2, e3, e4⟩ := keep_small g (keptB (endC7 h cs put)) h.f.length
    have h12 := g.n
    rw [endC7_len, hl]
    have := small_wt (h := (keepTo h (keptB (endC7 h cs put)) h.f.length).1) (by omega) (fun i _ => e4 i) (by omega) (by rw [e3]; exact g.rn)
    omega
/-- What is left when a marking has ended. -/
structure Left (h : H) (cs0 e : List Int) (c : H) : Prop where
  good : good c = true
  both : bothB c e = true
  same : sameQ h c = true
  kept : ∀ i, Prot h.f cs0 i → e.getD i 0 ≠ 0
  rch : ∀ i, Reach h.f h.r i → e.getD i 0 ≠ 0
  len : e.length = h.f.length
theorem left_of {h : H} {cs0 : List Int} (g : Good h) (hl : cs0.length = h.f.length) (hc : Col cs0) (s : InvS h cs0) : Left h cs0 (finC h cs0) (keepTo h (keptB (finC h cs0)) h.f.length).1 := by
  have none := finC_done (h := h) hl g.n
  obtain ⟨hk, hs⟩ := fin_keeps (h := h) (P := fun cs => (∀ i, Prot h.f cs0 i → Prot h.f cs i) ∧ InvS h cs) (fun cs hl k e => by
    obtain ⟨q1, q2⟩ := k.2.scan g hl (greyN_is e 0).1
    exact ⟨fun i hi => q1 i (k.1 i hi), q2⟩) hl ⟨fun i hi => hi, s⟩ 12
  have hl' : (finC h cs0).length = h.f.length := by unfold finC; rw [finN_len, hl]
  have hc' : Col (finC h cs0) := hc.finN 12
  change (∀ i, Prot h.f cs0 i → Prot h.f (finC h cs0) i) at hk
  change InvS h (finC h cs0) at hs
  generalize finC h cs0 = e at *
  have no1 : ∀ i, e.getD i 0 ≠ 1 := fun i hi => by
    have hlt : i < e.length := by
      by_cases q : i < e.length
      · exact q
      · rw [getD_outI q] at hi; omega
    have : (i : Int) ∈ ofC e 1 := mem_ofC.2 ⟨i, hlt, hi, rfl⟩
    rw [none] at this; simp at this
  have dark : ∀ i, Prot h.f e i → e.getD i 0 ≠ 0 := fun i hi => by
    induction hi with
    | dark q => exact q
    | @step y i q _ hz ih => exact absurd (by have := hc' y; have := no1 y; omega) q
  have kept : ∀ i, Prot h.f cs0 i → e.getD i 0 ≠ 0 := fun i hi => dark i (hk i hi)
  have rch : ∀ i, Reach h.f h.r i → e.getD i 0 ≠ 0 := fun i hi => dark i (hs.reach hi)
  have kid : ∀ y i : Nat, e.getD y 0 ≠ 0 → (i : Int) ∈ h.f.getD y [] → e.getD i 0 ≠ 0 := fun y i hy hi => dark i (hs.closed (.dark hy) hi)
  obtain ⟨e1, e2, e3, _⟩ := keepTo_len h (keptB e) h.f.length
  have get := keepTo_get h (keptB e) g.ll h.f.length (Nat.le_refl _)
  have gl : ∀ i, (keepTo h (keptB e) h.f.length).1.l.getD i false = (h.l.getD i false && decide (e.getD i 0 ≠ 0)) := fun i => by
    rw [(get i).1, keptB_get]
    by_cases q : h.f.length ≤ i
    · have : h.l.getD i false = false := by
        have := g.ll
        simp [List.getD, List.getElem?_eq_none (show h.l.length ≤ i by omega)]
      rw [this]; rfl
    · simp [q]
  have gf : ∀ i, e.getD i 0 ≠ 0 → (keepTo h (keptB e) h.f.length).1.f.getD i [] = h.f.getD i [] := fun i hi => by
    rw [(get i).2, if_neg]
    intro q
    rw [keptB_get, decide_eq_true hi] at q
    cases q.2.1
  have gf0 : ∀ i, e.getD i 0 = 0 → (keepTo h (keptB e) h.f.length).1.f.getD i [] = [] := fun i hi => by
    rw [(get i).2]
    by_cases q : h.l.getD i false = true ∧ (keptB e).getD i false = false ∧ i < h.f.length
    · rw [if_pos q]
    · rw [if_neg q]
      by_cases hil : i < h.f.length
      · rcases (g.row i hil).2.1 with r | r
        · exact absurd ⟨r, by rw [keptB_get, hi]; rfl, hil⟩ q
        · exact r
      · simp [List.getD, List.getElem?_eq_none (Nat.le_of_not_lt hil)]
  generalize (keepTo h (keptB e) h.f.length).1 = c at *
  have ref : ∀ zs : List Int, refsB h.l zs = true → (∀ i : Nat, (i : Int) ∈ zs → e.getD i 0 ≠ 0) → refsB c.l zs = true := fun zs q r => by
    rw [refsB_iff] at q ⊢
    intro z hz
    rcases refB_iff.1 (q z hz) with t | t
    · exact refB_iff.2 (.inl t)
    · obtain ⟨t1, t2⟩ := liveB_iff.1 t
      refine refB_iff.2 (.inr (liveB_iff.2 ⟨t1, ?_⟩))
      rw [gl, t2, decide_eq_true (r z.toNat (by rw [Int.toNat_of_nonneg t1]; exact hz))]; rfl
  have gc : Good c := by
    refine ⟨by rw [e1]; exact g.n, by rw [e1, e2]; exact g.ll, fun i hi => ?_, by rw [e3]; exact g.rn, by rw [e3]; exact ref _ g.rr fun i hi => rch i (.root hi)⟩
    rw [e1] at hi
    by_cases q : e.getD i 0 = 0
    · rw [gf0 i q]; exact ⟨by simp, .inr rfl, rfl⟩
    · rw [gf i q, gl]
      have r := g.row i hi
      refine ⟨r.1, ?_, ref _ r.2.2 fun j hj => kid i j q hj⟩
      rcases r.2.1 with t | t
      · left; rw [t, decide_eq_true q]; rfl
      · exact .inr t
  have rr : ∀ i, Reach c.f c.r i ↔ Reach h.f h.r i := fun i => by
    constructor
    · intro q
      induction q with
      | root hz => rw [e3] at hz; exact .root hz
      | step _ hz ih =>
        rename_i y _ _
        by_cases t : e.getD y 0 = 0
        · rw [gf0 y t] at hz; simp at hz
        · rw [gf y t] at hz; exact .step ih hz
    · intro q
      induction q with
      | root hz => exact .root (by rw [e3]; exact hz)
      | step hy hz ih => exact .step ih (by rw [gf _ (rch _ hy)]; exact hz)
  refine ⟨good_iff.2 gc, bothB_iff.2 ⟨gc, by rw [hl', e1], hc'⟩, ?_, kept, rch, hl'⟩
  have hb : Ph.both h c = true := by unfold Ph.both; rw [good_iff.2 g, good_iff.2 gc]; rfl
  have hsm : Same h c := ⟨e3.symm, fun i => ⟨(rr i).symm, fun q => (gf i (rch i q)).symm⟩⟩
  unfold sameQ; rw [hb, sameP_iff.2 hsm]; rfl
end Go.Proofs.Ytdagkbgobnaijaa.Ph
namespace Go.Proofs.Ytdagkbgobnaijaa.Ph
/-- White, and a Grey object leads to it over White ones alone. -/
inductive Grd (fs : List (List Int)) (cs : List Int) : Nat → Prop
  | grey {g i : Nat} : cs.getD g 0 = 1 → cs.getD i 0 = 0 → (i : Int) ∈ fs.getD g [] → Grd fs cs i
  | step {g i : Nat} : Grd fs cs g → cs.getD i 0 = 0 → (i : Int) ∈ fs.getD g [] → Grd fs cs i
theorem Grd.white {fs : List (List Int)} {cs : List Int} {i : Nat} (h : Grd fs cs i) : cs.getD i 0 = 0 := by cases h <;> assumption
theorem Grd.lt {h : H} {cs : List Int} {i : Nat} (g : Good h) (k : Grd h.f cs i) : i < h.f.length := by
  cases k with
  | grey _ _ q => exact g.fieldIn q
  | step _ _ q => exact g.fieldIn q
noncomputable def grdL (fs : List (List Int)) (cs : List Int) : List Bool := (List.range cs.length).map fun k => @decide (Grd fs cs k) (Classical.propDecidable _)
theorem grdL_len (fs : List (List Int)) (cs : List Int) : (grdL fs cs).length = cs.length := by simp [grdL]
theorem grdL_get {fs : List (List Int)} {cs : List Int} {k : Nat} : (grdL fs cs).getD k false = true ↔ k < cs.length ∧ Grd fs cs k := by
  unfold grdL
  by_cases hk : k < cs.length
  · simp [List.getD, hk]
  · simp [List.getD, hk]
theorem eq_grdL {fs : List (List Int)} {cs : List Int} {S : List Bool} (hl : S.length = cs.length) (h : ∀ k, S.getD k false = true ↔ k < cs.length ∧ Grd fs cs k) : S = grdL fs cs := by
  apply List.ext_getElem?
  intro k
  by_cases hk : k < cs.length
  · have h1 := h k
    have h2 := grdL_get (fs := fs) (cs := cs) (k := k)
    have e1 : S[k]? = some (S.getD k false) := by simp [List.getD, List.getElem?_eq_getElem (show k < S.length by omega)]
    have e2 : (grdL fs cs)[k]? = some ((grdL fs cs).getD k false) := by simp [List.getD, List.getElem?_eq_getElem (show k < (grdL fs cs).length by rw [grdL_len]; exact hk)]
    rw [e1, e2]
    congr 1
    rw [Bool.eq_iff_iff, h1, h2]
  · rw [List.getElem?_eq_none (by omega), List.getElem?_eq_none (by rw [grdL_len]; omega)]
/-- A reference to a White object that is not marked in S. -/
def missB (cs : List Int) (S : List Bool) (z : Int) : Bool := decide (0 ≤ z) && decide (cs.getD z.toNat 0 = 0) && !S.getD z.toNat false
theorem missB_iff {cs : List Int} {S : List Bool} {z : Int} : missB cs S z = true ↔ 0 ≤ z ∧ cs.getD z.toNat 0 = 0 ∧ S.getD z.toNat false = false := by
  unfold missB
  simp [and_assoc]
theorem missB_nat {cs : List Int} {S : List Bool} {k : Nat} : missB cs S (k : Int) = (decide (cs.getD k 0 = 0) && !S.getD k false) := by
  unfold missB
  simp
theorem missB_neg {cs : List Int} {S : List Bool} {z : Int} (h : z < 0) : missB cs S z = false := by
  unfold missB
  rw [decide_eq_false (by omega)]; rfl
/-- What a search has found so far. -/
structure Gin (fs : List (List Int)) (cs : List Int) (S : List Bool) : Prop where
  len : S.length = cs.length
  src : ∀ k, S.getD k false = true → Grd fs cs k
theorem Gin.start (fs : List (List Int)) (cs : List Int) : Gin fs cs (List.replicate cs.length false) := by
  refine ⟨by simp, fun k hk => ?_⟩
  by_cases e : k < cs.length
  · simp [List.getD, e] at hk
  · simp [List.getD, e] at hk
/-- The object `from` is Grey or found. -/
def fromB (cs : List Int) (S : List Bool) (k : Nat) : Bool := decide (cs.getD k 0 = 1) || S.getD k false
theorem Gin.take {fs : List (List Int)} {cs : List Int} {S : List Bool} {k t : Nat} (h : Gin fs cs S) (hf : fromB cs S k = true) (ht : (t : Int) ∈ fs.getD k []) (hm : missB cs S (t : Int) = true) (htl : t < cs.length) : Gin fs cs (S.set t true) := by
  have key : ∀ j, (S.set t true).getD j false = true ↔ j = t ∨ S.getD j false = true := fun j => by
    rw [getD_set (by rw [h.len]; exact htl)]; by_cases e : j = t <;> simp [e]
  refine ⟨by rw [List.length_set, h.len], fun j hj => ?_⟩
  rcases (key j).1 hj with rfl | q
  · have w := (missB_iff.1 hm).2.1
    rw [Int.toNat_natCast] at w
    unfold fromB at hf
    rw [Bool.or_eq_true, decide_eq_true_eq] at hf
    rcases hf with q | q
    · exact .grey q w ht
    · exact .step (h.src k q) w ht
  · exact h.src j q
theorem Gin.done {h : H} {cs : List Int} {S : List Bool} (k : Gin h.f cs S) (hd : ∀ j, j < cs.length → fromB cs S j = true → ∀ z ∈ h.f.getD j [], missB cs S z = false) : S = grdL h.f cs := by
  have lt : ∀ j, fromB cs S j = true → j < cs.length := fun j hj => by
    by_cases e : j < cs.length
    · exact e
    · unfold fromB at hj
      rw [getD_outI e] at hj
      have := getD_lt (l := S) (k := j) (by simpa using hj)
      rw [k.len] at this; exact this
  have up : ∀ j i : Nat, fromB cs S j = true → cs.getD i 0 = 0 → (i : Int) ∈ h.f.getD j [] → S.getD i false = true := fun j i hj hw hi => by
    have := hd j (lt j hj) hj _ hi
    rw [missB_nat, hw] at this
    simpa using this
  refine eq_grdL k.len fun i => ⟨fun hi => ⟨by have := getD_lt hi; rw [k.len] at this; exact this, k.src i hi⟩, fun hh => ?_⟩
  have hi := hh.2
  clear hh
  induction hi with
  | grey q1 q2 q3 => exact up _ _ (by unfold fromB; rw [decide_eq_true q1]; rfl) q2 q3
  | step q1 q2 q3 ih => exact up _ _ (by unfold fromB; rw [ih]; simp) q2 q3
/-- A queue's round: what is in the queue is Grey or found; what has left it is done with. -/
structure Gq (fs : List (List Int)) (cs q : List Int) (S : List Bool) : Prop where
  gin : Gin fs cs S
  cl : ∀ k : Nat, fromB cs S k = true → (k : Int) ∈ q ∨ ∀ z ∈ fs.getD k [], missB cs S z = false
  qs : ∀ z ∈ q, 0 ≤ z ∧ z.toNat < cs.length ∧ fromB cs S z.toNat = true
theorem missB_set {cs : List Int} {S : List Bool} {t : Nat} (ht : t < S.length) {z : Int} (h : missB cs S z = false) : missB cs (S.set t true) z = false := by
  by_cases q : missB cs (S.set t true) z = true
  · obtain ⟨q1, q2, q3⟩ := missB_iff.1 q
    rw [getD_set ht] at q3
    by_cases e : z.toNat = t
    · rw [if_pos e] at q3; cases q3
    · rw [if_neg e] at q3
      rw [missB_iff.2 ⟨q1, q2, q3⟩] at h; cases h
  · simpa using q
theorem fromB_set {cs : List Int} {S : List Bool} {t k : Nat} (ht : t < S.length) : fromB cs (S.set t true) k = true ↔ k = t ∨ fromB cs S k = true := by
  unfold fromB
  rw [getD_set ht]
  by_cases e : k = t <;> simp [e]
theorem Gq.start {fs : List (List Int)} {cs : List Int} : Gq fs cs (ofC cs 1) (List.replicate cs.length false) := by
  have no : ∀ k, (List.replicate cs.length false).getD k false = false := fun k => by
    by_cases e : k < cs.length <;> simp [List.getD, e]
  refine ⟨Gin.start fs cs, fun k hk => ?_, fun z hz => ?_⟩
  · unfold fromB at hk
    rw [no] at hk
    have h1 : cs.getD k 0 = 1 := by simpa using hk
    left
    refine mem_ofC.2 ⟨k, ?_, h1, rfl⟩
    by_cases e : k < cs.length
    · exact e
    · rw [getD_outI e] at h1; omega
  · obtain ⟨i, hi, h1, rfl⟩ := mem_ofC.1 hz
    refine ⟨by omega, by simpa using hi, ?_⟩
    unfold fromB
    rw [Int.toNat_natCast, decide_eq_true h1]; rfl
/-- Within a round: the head k is gone, its first j fields are done with. -/
structure Gr (fs : List (List Int)) (cs q : List Int) (S : List Bool) (k j : Nat) : Prop where
  gin : Gin fs cs S
  cl : ∀ i : Nat, i ≠ k → fromB cs S i = true → (i : Int) ∈ q ∨ ∀ z ∈ fs.getD i [], missB cs S z = false
  qs : ∀ z ∈ q, 0 ≤ z ∧ z.toNat < cs.length ∧ fromB cs S z.toNat = true
  hd : fromB cs S k = true
  dn : ∀ z ∈ (fs.getD k []).take j, missB cs S z = false
theorem Gq.head {fs : List (List Int)} {cs q : List Int} {S : List Bool} {k : Nat} (h : Gq fs cs ((k : Int) :: q) S) : Gr fs cs q S k 0 := by
  refine ⟨h.gin, fun i hi hf => ?_, fun z hz => h.qs z (List.mem_cons_of_mem _ hz), ?_, fun z hz => by simp at hz⟩
  · rcases h.cl i hf with q | q
    · rcases List.mem_cons.1 q with e | e
      · omega
      · exact .inl e
    · exact .inr q
  · have := (h.qs _ List.mem_cons_self).2.2
    rwa [Int.toNat_natCast] at this
theorem Gr.skip {fs : List (List Int)} {cs q : List Int} {S : List Bool} {k j : Nat} (h : Gr fs cs q S k j) (hj : j < (fs.getD k []).length) (hm : missB cs S ((fs.getD k []).getD j 0) = false) : Gr fs cs q S k (j + 1) := by
  refine ⟨h.gin, h.cl, h.qs, h.hd, fun z hz => ?_⟩
  rcases (mem_take_succ hj z).1 hz with q | q
  · exact h.dn z q
  · rw [q]; exact hm
theorem Gr.find {fs : List (List Int)} {cs q : List Int} {S : List Bool} {k j t : Nat} (h : Gr fs cs q S k j) (hj : j < (fs.getD k []).length) (ht : (fs.getD k []).getD j 0 = (t : Int)) (hm : missB cs S (t : Int) = true) (htl : t < cs.length) : Gr fs cs (q ++ [(t : Int)]) (S.set t true) k (j + 1) := by
  have hts : t < S.length := by rw [h.gin.len]; exact htl
  have hmem : (t : Int) ∈ fs.getD k [] := by rw [← ht]; exact getD_memI hj
  refine ⟨h.gin.take h.hd hmem hm htl, fun i hi hf => ?_, fun z hz => ?_, (fromB_set hts).2 (.inr h.hd), fun z hz => ?_⟩
  · rcases (fromB_set hts).1 hf with e | e
    · left; rw [e]; simp
    · rcases h.cl i hi e with q | q
      · exact .inl (List.mem_append.2 (.inl q))
      · exact .inr fun z hz => missB_set hts (q z hz)
  · rcases List.mem_append.1 hz with q | q
    · obtain ⟨a, b, c⟩ := h.qs z q
      exact ⟨a, b, (fromB_set hts).2 (.inr c)⟩
    · rw [List.mem_singleton] at q
      subst q
      exact ⟨by omega, by simpa using htl, (fromB_set hts).2 (.inl (by simp))⟩
  · rcases (mem_take_succ hj z).1 hz with q | q
    · exact missB_set hts (h.dn z q)
    · rw [q, ht, missB_nat, getD_set hts]; simp
theorem Gr.over {fs : List (List Int)} {cs q : List Int} {S : List Bool} {k : Nat} (h : Gr fs cs q S k (fs.getD k []).length) : Gq fs cs q S := by
  refine ⟨h.gin, fun i hf => ?_, h.qs⟩
  by_cases e : i = k
  · subst e
    right
    have := h.dn
    rwa [List.take_of_length_le (Nat.le_refl _)] at this
  · exact h.cl i e hf
theorem Gq.done {h : H} {cs : List Int} {S : List Bool} (k : Gq h.f cs [] S) : S = grdL h.f cs :=
  k.gin.done fun j _ hf => (k.cl j hf).resolve_left (by simp)
/-- The places of what is true, in order. -/
def ofBTo (bs : List Bool) (n : Nat) : List Int := ((List.range n).filter fun i => bs.getD i false).map fun i : Nat => (i : Int)
def ofB (bs : List Bool) : List Int := ofBTo bs bs.length
theorem ofBTo_zero (bs : List Bool) : ofBTo bs 0 = [] := rfl
theorem ofBTo_yes {bs : List Bool} {n : Nat} (h : bs.getD n false = true) : ofBTo bs (n + 1) = ofBTo bs n ++ [(n : Int)] := by
  unfold ofBTo
  rw [List.range_succ, List.filter_append, List.map_append, List.filter_cons_of_pos (by simpa using h)]; rfl
theorem ofBTo_no {bs : List Bool} {n : Nat} (h : bs.getD n false = false) : ofBTo bs (n + 1) = ofBTo bs n := by
  unfold ofBTo
  rw [List.range_succ, List.filter_append, List.map_append, List.filter_cons_of_neg (by simpa using h)]; simp
theorem ofBTo_len (bs : List Bool) (n : Nat) : (ofBTo bs n).length ≤ n := by
  unfold ofBTo
  rw [List.length_map]
  refine Nat.le_trans (List.length_filter_le _ _) ?_
  simp
theorem mem_ofBTo {bs : List Bool} {n : Nat} {z : Int} : z ∈ ofBTo bs n ↔ ∃ i, i < n ∧ bs.getD i false = true ∧ z = i := by
  unfold ofBTo
  simp only [List.mem_map, List.mem_filter, List.mem_range]
  constructor
  · rintro ⟨i, ⟨h1, h2⟩, rfl⟩; exact ⟨i, h1, h2, rfl⟩
  · rintro ⟨i, h1, h2, rfl⟩; exact ⟨i, ⟨h1, h2⟩, rfl⟩
theorem mem_ofB {bs : List Bool} {z : Int} : z ∈ ofB bs ↔ ∃ i, bs.getD i false = true ∧ z = i := by
  unfold ofB
  rw [mem_ofBTo]
  exact ⟨fun ⟨i, _, h⟩ => ⟨i, h⟩, fun ⟨i, h, e⟩ => ⟨i, getD_lt h, h, e⟩⟩
/-- What is lost, among the first n objects. -/
noncomputable def lostTo (h : H) (cs : List Int) (n : Nat) : List Int := (ofBTo (reachL h.f h.r) n).filter (missB cs (grdL h.f cs))
noncomputable def lostL (h : H) (cs : List Int) : List Int := lostTo h cs h.f.length
theorem lostL_eq (h : H) (cs : List Int) : lostL h cs = (ofB (reachL h.f h.r)).filter (missB cs (grdL h.f cs)) := by unfold lostL lostTo ofB; rw [reachL_length]
theorem lostTo_zero (h : H) (cs : List Int) : lostTo h cs 0 = [] := rfl
theorem lostTo_yes {h : H} {cs : List Int} {n : Nat} (h1 : (reachL h.f h.r).getD n false = true) (h2 : missB cs (grdL h.f cs) (n : Int) = true) : lostTo h cs (n + 1) = lostTo h cs n ++ [(n : Int)] := by
  unfold lostTo
  rw [ofBTo_yes h1, List.filter_append, List.filter_cons_of_pos h2]; rfl
theorem lostTo_no {h : H} {cs : List Int} {n : Nat} (h1 : (reachL h.f h.r).getD n false = false ∨ missB cs (grdL h.f cs) (n : Int) = false) : lostTo h cs (n + 1) = lostTo h cs n := by
  unfold lostTo
  cases e : (reachL h.f h.r).getD n false with
  | false => rw [ofBTo_no e]
  | true =>
    rcases h1 with q | q
    · rw [e] at q; cases q
    · rw [ofBTo_yes e, List.filter_append, List.filter_cons_of_neg (by rw [q]; decide)]; simp
theorem lostTo_len (h : H) (cs : List Int) (n : Nat) : (lostTo h cs n).length ≤ n := by
  unfold lostTo
  exact Nat.le_trans (List.length_filter_le _ _) (ofBTo_len _ _)
theorem mem_lostL {h : H} {cs : List Int} (hl : cs.length = h.f.length) {z : Int} : z ∈ lostL h cs ↔ ∃ i : Nat, i < h.f.length ∧ Reach h.f h.r i ∧ cs.getD i 0 = 0 ∧ ¬ Grd h.f cs i ∧ z = i := by
  rw [lostL_eq, List.mem_filter, mem_ofB]
  constructor
  · rintro ⟨⟨i, hi, rfl⟩, hm⟩
    obtain ⟨h1, h2⟩ := reachL_getD.1 hi
    rw [missB_nat] at hm
    simp only [Bool.and_eq_true, decide_eq_true_eq, Bool.not_eq_true'] at hm
    refine ⟨i, h1, h2, hm.1, fun q => ?_, rfl⟩
    rw [grdL_get.2 ⟨by omega, q⟩] at hm; cases hm.2
  · rintro ⟨i, h1, h2, h3, h4, rfl⟩
    refine ⟨⟨i, reachL_getD.2 ⟨h1, h2⟩, rfl⟩, ?_⟩
    rw [missB_nat, h3]
    cases q : (grdL h.f cs).getD i false with
    | false => rfl
    | true => exact absurd (grdL_get.1 q).2 h4
/-- The weak invariant, and the one of the roots. -/
noncomputable def weakB (h : H) (cs : List Int) : Bool := (List.range h.f.length).all fun k => !(decide (cs.getD k 0 = 2) && (h.f.getD k []).any (missB cs (grdL h.f cs)))
theorem weakB_iff {h : H} {cs : List Int} : weakB h cs = true ↔ ∀ k, k < h.f.length → cs.getD k 0 = 2 → (h.f.getD k []).any (missB cs (grdL h.f cs)) = false := by
  unfold weakB
  rw [List.all_eq_true]
  simp only [List.mem_range, Bool.not_eq_true', Bool.and_eq_false_imp, decide_eq_true_eq]
theorem weakB_no {h : H} {cs : List Int} {k : Nat} (hk : k < h.f.length) (h2 : cs.getD k 0 = 2) (hm : (h.f.getD k []).any (missB cs (grdL h.f cs)) = true) : weakB h cs = false := by
  cases q : weakB h cs with
  | false => rfl
  | true => have := weakB_iff.1 q k hk h2; rw [hm] at this; cases this
noncomputable def rootsB (h : H) (cs : List Int) : Bool := !h.r.any (missB cs (grdL h.f cs))
/-- What the functions answer. -/
noncomputable def weakR (h : H) (cs : List Int) : Bool := bothB h cs && weakB h cs
noncomputable def rootsR (h : H) (cs : List Int) : Bool := bothB h cs && rootsB h cs
noncomputable def lostR (h : H) (cs : List Int) : List Int := if bothB h cs = true then lostL h cs else []
noncomputable def grdR (h : H) (cs : List Int) : List Int := if bothB h cs = true then ofB (grdL h.f cs) else []
def goC (h : H) (cs : List Int) : List Int := if bothB h cs = true then finC h cs else []
def goN (h : H) (cs : List Int) : Nat := if bothB h cs = true then blk (finC h cs) h.f.length - blk cs h.f.length else 0
theorem ofB_len (bs : List Bool) : (ofB bs).length ≤ bs.length := ofBTo_len _ _
theorem lostR_len (h : H) (cs : List Int) : (lostR h cs).length ≤ 1000 := by
  unfold lostR
  split
  · next hb => have := (bothB_iff.1 hb).1.n; have := lostTo_len h cs h.f.length; unfold lostL; omega
  · simp
theorem grdR_len (h : H) (cs : List Int) : (grdR h cs).length ≤ 1000 := by
  unfold grdR
  split
  · next hb => have := (bothB_iff.1 hb); have := this.1.n; have := ofB_len (grdL h.f cs); rw [grdL_len] at this; omega
  · simp
theorem goC_len (h : H) (cs : List Int) : (goC h cs).length ≤ 1000 := by
  unfold goC
  split
  · next hb => have := (bothB_iff.1 hb); have := this.1.n; unfold finC; rw [finN_len]; omega
  · simp
/-- How many scans there were. -/
theorem finN_blkEq {h : H} {cs : List Int} (hl : cs.length = h.f.length) (n : Nat) (hn : ∀ m, m < n → ofC (finN h cs m) 1 ≠ []) : blk (finN h cs n) h.f.length = blk cs h.f.length + n := by
  induction n with
  | zero => rfl
  | succ n ih =>
    have := ih fun m hm => hn m (by omega)
    have e := blk_scanF (h := h) (cs := finN h cs n) (by rw [finN_len, hl]) (hn n (by omega))
    simp only [finN]; omega
theorem goN_eq {h : H} {cs : List Int} {n : Nat} (hb : bothB h cs = true) (e : finC h cs = finN h cs n) (hn : ∀ m, m < n → ofC (finN h cs m) 1 ≠ []) : goN h cs = n := by
  unfold goN
  rw [if_pos hb, e, finN_blkEq (bothB_iff.1 hb).2.1 n hn]
  omega
/-- The first lost object is shaded. -/
noncomputable def shl1 (h : H) (cs : List Int) : List Int := shade cs ((lostL h cs).getD 0 (-1))
noncomputable def shlN (h : H) (cs : List Int) : Nat → List Int
  | 0 => cs
  | n + 1 => shl1 h (shlN h cs n)
theorem shl1_no {h : H} {cs : List Int} (e : lostL h cs = []) : shl1 h cs = cs := by unfold shl1; rw [e]; exact shade_neg (by simp)
theorem shl1_len (h : H) (cs : List Int) : (shl1 h cs).length = cs.length := shade_len _ _
theorem shlN_len (h : H) (cs : List Int) (n : Nat) : (shlN h cs n).length = cs.length := by
  induction n with
  | zero => rfl
  | succ n ih => simp only [shlN]; rw [shl1_len, ih]
theorem Col.shlN {h : H} {cs : List Int} (hc : Col cs) (n : Nat) : Col (shlN h cs n) := by
  induction n with
  | zero => exact hc
  | succ n ih => exact ih.shade _
/-- How many objects below n are White. -/
def wht (cs : List Int) (n : Nat) : Nat := (List.range n).countP fun i => decide (cs.getD i 0 = 0)
theorem wht_succ (cs : List Int) (n : Nat) : wht cs (n + 1) = wht cs n + if cs.getD n 0 = 0 then 1 else 0 := by
  unfold wht
  rw [List.range_succ, List.countP_append]
  rw [List.countP_singleton]
  by_cases h : cs.getD n 0 = 0
  · rw [if_pos h, if_pos (by simpa using h)]
  · rw [if_neg h, if_neg (by simpa using h)]
theorem wht_le (cs : List Int) (n : Nat) : wht cs n ≤ n := by
  induction n with
  | zero => exact Nat.le_refl _
  | succ n ih => rw [wht_succ]; split <;> omega
theorem wht_one {cs cs' : List Int} {k : Nat} (hk : cs.getD k 0 = 0) (hk' : cs'.getD k 0 ≠ 0) (ho : ∀ i, i ≠ k → cs'.getD i 0 = cs.getD i 0) (n : Nat) : wht cs n = wht cs' n + if k < n then 1 else 0 := by
  induction n with
  | zero => rfl
  | succ n ih =>
    rw [wht_succ, wht_succ, ih]
    by_cases e : n = k
    · subst e
      rw [if_neg (Nat.lt_irrefl _), if_pos hk, if_neg hk', if_pos (Nat.lt_succ_self _)]
    · rw [ho n e]
      by_cases h3 : k < n
      · rw [if_pos h3, if_pos (show k < n + 1 by omega)]; omega
      · rw [if_neg h3, if_neg (show ¬ k < n + 1 by omega)]; omega
theorem wht_shl1 {h : H} {cs : List Int} (hl : cs.length = h.f.length) (e : lostL h cs ≠ []) : wht cs h.f.length = wht (shl1 h cs) h.f.length + 1 := by
  have hm : (lostL h cs).getD 0 (-1) ∈ lostL h cs := by
    cases q : lostL h cs with
    | nil => exact absurd q e
    | cons z zs => simp
  obtain ⟨i, hi, _, h0, _, ei⟩ := (mem_lostL hl).1 hm
  unfold shl1
  rw [ei]
  rw [wht_one (cs := cs) (cs' := shade cs i) (k := i) h0 (shade_on (by omega)) (fun j hj => ?_), if_pos hi]
  rw [shade_get, if_neg]
  omega
theorem shlN_stop {h : H} {cs : List Int} {n : Nat} (e : lostL h (shlN h cs n) = []) (m : Nat) : shlN h cs (n + m) = shlN h cs n := by
  induction m with
  | zero => rfl
  | succ m ih => rw [← Nat.add_assoc]; simp only [shlN]; rw [ih, shl1_no e]
noncomputable def shlC (h : H) (cs : List Int) : List Int := shlN h cs 12
theorem shlC_stop {h : H} {cs : List Int} {n : Nat} (e : lostL h (shlN h cs n) = []) (hn : n ≤ 12) : shlC h cs = shlN h cs n := by
  have := shlN_stop e (12 - n)
  rw [Nat.add_sub_cancel' hn] at this
  exact this
theorem shlN_wht {h : H} {cs : List Int} (hl : cs.length = h.f.length) (n : Nat) (hn : ∀ m, m < n → lostL h (shlN h cs m) ≠ []) : wht cs h.f.length = wht (shlN h cs n) h.f.length + n := by
  induction n with
  | zero => rfl
  | succ n ih =>
    have := ih fun m hm => hn m (by omega)
    have e := wht_shl1 (h := h) (cs := shlN h cs n) (by rw [shlN_len, hl]) (hn n (by omega))
    simp only [shlN]; omega
theorem shlC_done {h : H} {cs : List Int} (hl : cs.length = h.f.length) (h12 : h.f.length ≤ 12) : lostL h (shlC h cs) = [] := by
  by_cases q : ∃ m, m < 13 ∧ lostL h (shlN h cs m) = []
  · obtain ⟨m, hm, e⟩ := q
    rw [shlC_stop e (by omega)]; exact e
  · have := shlN_wht (h := h) hl 13 fun m hm e => q ⟨m, hm, e⟩
    have := wht_le cs h.f.length
    omega
noncomputable def shlR (h : H) (cs : List Int) : List Int := if bothB h cs = true then shlC h cs else []
noncomputable def shlM (h : H) (cs : List Int) : Nat := if bothB h cs = true then wht cs h.f.length - wht (shlC h cs) h.f.length else 0
theorem shlR_len (h : H) (cs : List Int) : (shlR h cs).length ≤ 1000 := by
  unfold shlR
  split
  · next hb => have := (bothB_iff.1 hb); have := this.1.n; unfold shlC; rw [shlN_len]; omega
  · simp
/-- A shading of lost objects under way. -/
structure Sk (h : H) (cs0 cs : List Int) (n : Nat) : Prop where
  eq : cs = shlN h cs0 n
  l0 : cs0.length = h.f.length
  c0 : Col cs0
  nt : ∀ m, m < n → lostL h (shlN h cs0 m) ≠ []
theorem Sk.start {h : H} {cs0 : List Int} (hl : cs0.length = h.f.length) (hc : Col cs0) : Sk h cs0 cs0 0 := ⟨rfl, hl, hc, fun m hm => by omega⟩
theorem Sk.len {h : H} {cs0 cs : List Int} {n : Nat} (k : Sk h cs0 cs n) : cs.length = h.f.length := by rw [k.eq, shlN_len, k.l0]
theorem Sk.col {h : H} {cs0 cs : List Int} {n : Nat} (k : Sk h cs0 cs n) : Col cs := by rw [k.eq]; exact k.c0.shlN n
theorem Sk.le {h : H} {cs0 cs : List Int} {n : Nat} (k : Sk h cs0 cs n) : n ≤ h.f.length := by
  have := shlN_wht k.l0 n k.nt
  have := wht_le cs0 h.f.length
  omega
theorem Sk.step {h : H} {cs0 cs : List Int} {n : Nat} (k : Sk h cs0 cs n) (e : lostL h cs ≠ []) : Sk h cs0 (shl1 h cs) (n + 1) := by
  refine ⟨by rw [k.eq]; rfl, k.l0, k.c0, fun m hm => ?_⟩
  by_cases q : m = n
  · subst q; rw [← k.eq]; exact e
  · exact k.nt m (by omega)
theorem Sk.done {h : H} {cs0 cs : List Int} {n : Nat} (k : Sk h cs0 cs n) (hb : bothB h cs0 = true) (e : lostL h cs = []) : shlR h cs0 = cs ∧ shlM h cs0 = n := by
  have h12 := (bothB_iff.1 hb).1.n
  have hn := k.le
  have e' := e
  rw [k.eq] at e'
  have q := shlC_stop e' (by omega)
  unfold shlR shlM
  rw [if_pos hb, if_pos hb, q]
  have := shlN_wht k.l0 n k.nt
  exact ⟨k.eq.symm, by omega⟩
end Go.Proofs.Ytdagkbgobnaijaa.Ph
