/- What a collection leaves: the reached objects as they were, and nothing else. Mathematics alone. What a new object and a changed field leave. Mathematics alone. Moves during a marking: what a move does, and what it keeps. A move keeps a marking good, and all that it comes to. How a marking ends. Markings: a heap and its colours; what a call owns of one; the laws' own helpers over them. Markings: how calls end with one; GoodMarking, KeptFrom of both sides. KeptFrom, StartMarking of both sides; the reference's copy of a marking. StartMarking of both sides; the reference's copy of a marking. -/
import Derived.Test.YtdagkbgobnaijaaHk2
import Derived.Test.YtdagkbgobnaijaaHm3
import Derived.Test.YtdagkbgobnaijaaHn7
import Derived.Test.YtdagkbgobnaijaaHw8
import Derived.Test.YtdagkbgobnaijaaPk
import Derived.Test.YtdagkbgobnaijaaHp1
import Derived.Test.YtdagkbgobnaijaaHl5
import Derived.Test.YtdagkbgobnaijaaHe1
import Derived.Test.YtdagkbgobnaijaaCs3
import Derived.Test.YtdagkbgobnaijaaHr2
import Derived.Test.YtdagkbgobnaijaaHn3
import Derived.Test.YtdagkbgobnaijaaHs6
namespace Go.Proofs.Ytdagkbgobnaijaa.Ph
theorem keepTo_get (h : H) (ks : List Bool) (hll : h.l.length = h.f.length) (j : Nat) (hj : j ≤ h.f.length) : ∀ i, (keepTo h ks j).1.l.getD i false = (h.l.getD i false && (ks.getD i false || decide (j ≤ i))) ∧ (keepTo h ks j).1.f.getD i [] = if h.l.getD i false = true ∧ ks.getD i false = false ∧ i < j then [] else h.f.getD i [] := by
  induction j with
  | zero => exact fun i => ⟨by simp [keepTo], by rw [if_neg (by omega)]; rfl⟩
  | succ j ih =>
    have ih := ih (by omega)
    obtain ⟨e1, e2, _, _⟩ := keepTo_len h ks j
    have hlj : (keepTo h ks j).1.l.getD j false = h.l.getD j false := by rw [(ih j).1]; simp
    by_cases hy : h.l.getD j false = true ∧ ks.getD j false = false
    · rw [keepTo_yes (by rw [hlj]; exact hy.1) hy.2]
      intro i
      simp only
      rw [getD_set (by omega), getD_setL (by omega)]
      by_cases e : i = j
      · subst e
        rw [if_pos rfl, if_pos rfl, if_pos ⟨hy.1, hy.2, by omega⟩, hy.2]
        simp
      · rw [if_neg e, if_neg e, (ih i).1, (ih i).2]
        refine ⟨?_, ?_⟩
        · have : decide (j ≤ i) = decide (j + 1 ≤ i) := by
            by_cases q : j ≤ i
            · rw [decide_eq_true q, decide_eq_true (by omega)]
            · rw [decide_eq_false q, decide_eq_false (by omega)]
          rw [this]
        · by_cases q : h.l.getD i false = true ∧ ks.getD i false = false ∧ i < j
          · rw [if_pos q, if_pos ⟨q.1, q.2.1, by omega⟩]
          · rw [if_neg q, if_neg (fun k => q ⟨k.1, k.2.1, by omega⟩)]
    · have hn : (keepTo h ks j).1.l.getD j false = false ∨ ks.getD j false = true := by
        rw [hlj]
        cases hq : h.l.getD j false with
        | false => exact .inl rfl
        | true =>
          cases hq2 : ks.getD j false with
          | false => exact absurd ⟨hq, hq2⟩ hy
          | true => exact .inr rfl
      rw [keepTo_no hn]
      intro i
      rw [(ih i).1, (ih i).2]
      by_cases e : i = j
      · subst e
        refine ⟨?_, ?_⟩
        · cases hq : h.l.getD i false with
          | false => simp
          | true =>
            cases hq2 : ks.getD i false with
            | false => exact absurd ⟨hq, hq2⟩ hy
            | true => simp
        · rw [if_neg (by omega), if_neg (fun k => hy ⟨k.1, k.2.1⟩)]
      · refine ⟨?_, ?_⟩
        · have : decide (j ≤ i) = decide (j + 1 ≤ i) := by
            by_cases q : j ≤ i
            · rw [decide_eq_true q, decide_eq_true (by omega)]
            · rw [decide_eq_false q, decide_eq_false (by omega)]
          rw [this]
        · by_cases q : h.l.getD i false = true ∧ ks.getD i false = false ∧ i < j
          · rw [if_pos q, if_pos ⟨q.1, q.2.1, by omega⟩]
          · rw [if_neg q, if_neg (fun k => q ⟨k.1, k.2.1, by omega⟩)]
/-- Nothing goes where all that is live is kept. -/
theorem keepTo_all (h : H) (ks : List Bool) (hk : ∀ i, h.l.getD i false = true → ks.getD i false = true) (j : Nat) : keepTo h ks j = (h, 0) := by
  induction j with
  | zero => rfl
  | succ j ih =>
    rw [keepTo_no, ih]
    rw [ih]
    cases hq : h.l.getD j false with
    | false => exact .inl rfl
    | true => exact .inr (hk j hq)
theorem reach_in {h : H} (g : Good h) {k : Nat} (hr : Reach h.f h.r k) : k < h.f.length ∧ h.l.getD k false = true := by
  cases hr with
  | root hz => rcases refs_bound g g.rr _ hz with e | ⟨_, e1, e2⟩
               · omega
               · exact ⟨by omega, by simpa using e2⟩
  | step _ hz => rcases g.field hz with e | ⟨_, e1, e2⟩
                 · omega
                 · exact ⟨by omega, by simpa using e2⟩
structure Cln (h c : H) : Prop where
  l : c.l = reachL h.f h.r
  f : ∀ i, c.f.getD i [] = if (reachL h.f h.r).getD i false = true then h.f.getD i [] else []
  r : c.r = h.r
  n : c.f.length = h.f.length
theorem Cln.of {h : H} (g : Good h) : Cln h (cleanP h).1 := by
  rw [cleanP_yes (good_iff.2 g)]
  obtain ⟨e1, e2, e3, _⟩ := keepTo_len h (reachL h.f h.r) h.f.length
  have get := keepTo_get h (reachL h.f h.r) g.ll h.f.length (Nat.le_refl _)
  have rl : ∀ i, (reachL h.f h.r).getD i false = true → h.l.getD i false = true := fun i hi => (reach_in g (reachL_getD.1 hi).2).2
  refine ⟨?_, fun i => ?_, e3, e1⟩
  · refine eq_reachL (by rw [e2, g.ll]) fun k => ?_
    rw [(get k).1]
    constructor
    · intro q
      simp only [Bool.and_eq_true, Bool.or_eq_true, decide_eq_true_eq] at q
      have hk := getD_lt q.1
      rw [g.ll] at hk
      rcases q.2 with q2 | q2
      · exact reachL_getD.1 q2
      · omega
    · intro q
      have q1 := reachL_getD.2 q
      rw [rl k q1, q1]; rfl
  · rw [(get i).2]
    by_cases q : (reachL h.f h.r).getD i false = true
    · rw [if_pos q, if_neg (fun k => by rw [q] at k; cases k.2.1)]
    · rw [if_neg q]
      by_cases hi : i < h.f.length
      · rcases (g.row i hi).2.1 with hl | hl
        · rw [if_pos ⟨hl, by simpa using q, hi⟩]
        · rw [hl]; split <;> rfl
      · have : h.f.getD i [] = [] := by simp [List.getD, List.getElem?_eq_none (Nat.le_of_not_lt hi)]
        rw [this]; split <;> rfl
theorem Cln.reach {h c : H} (g : Good h) (k : Cln h c) (i : Nat) : Reach c.f c.r i ↔ Reach h.f h.r i := by
  constructor
  · intro q
    induction q with
    | root hz => rw [k.r] at hz; exact .root hz
    | step _ hz ih =>
      rw [k.f] at hz
      split at hz
      · exact .step ih hz
      · simp at hz
  · intro q
    induction q with
    | root hz => exact .root (by rw [k.r]; exact hz)
    | step hy hz ih => exact .step ih (by rw [k.f, if_pos (reachL_getD.2 ⟨(reach_in g hy).1, hy⟩)]; exact hz)
theorem Cln.reachL {h c : H} (g : Good h) (k : Cln h c) : Ph.reachL c.f c.r = Ph.reachL h.f h.r := by
  refine (eq_reachL (fs := c.f) (zs := c.r) (by rw [reachL_length, k.n]) fun i => ?_).symm
  rw [reachL_getD, k.n, k.reach g]
theorem Cln.good {h c : H} (g : Good h) (k : Cln h c) : Good c := by
  have live : ∀ z : Int, 0 ≤ z → Reach h.f h.r z.toNat → refB c.l z = true := fun z z0 hr => refB_iff.2 (.inr (liveB_iff.2 ⟨z0, by rw [k.l]; exact reachL_getD.2 ⟨(reach_in g hr).1, hr⟩⟩))
  have ref : ∀ (zs : List Int), (∀ z ∈ zs, z = -1 ∨ (0 ≤ z ∧ Reach h.f h.r z.toNat)) → refsB c.l zs = true := fun zs hz => refsB_iff.2 fun z q => by
    rcases hz z q with e | ⟨e1, e2⟩
    · exact refB_iff.2 (.inl e)
    · exact live z e1 e2
  refine ⟨by rw [k.n]; exact g.n, by rw [k.l, reachL_length, k.n], fun i hi => ?_, by rw [k.r]; exact g.rn, ?_⟩
  · rw [k.n] at hi
    rw [k.f]
    by_cases q : (Ph.reachL h.f h.r).getD i false = true
    · rw [if_pos q]
      refine ⟨(g.row i hi).1, .inl (by rw [k.l]; exact q), ref _ fun z hz => ?_⟩
      rcases g.field hz with e | ⟨e1, _, _⟩
      · exact .inl e
      · exact .inr ⟨e1, .step (reachL_getD.1 q).2 (by rw [Int.toNat_of_nonneg e1]; exact hz)⟩
    · rw [if_neg q]
      exact ⟨by simp, .inr rfl, rfl⟩
  · rw [k.r]
    refine ref _ fun z hz => ?_
    rcases refs_bound g g.rr z hz with e | ⟨e1, _, _⟩
    · exact .inl e
    · exact .inr ⟨e1, .root (by rw [Int.toNat_of_nonneg e1]; exact hz)⟩
/-- What the law asks of a collection. -/
theorem clean_facts {h : H} (hg : good h = true) : good (cleanP h).1 = true ∧ sameQ h (cleanP h).1 = true ∧ both h (cleanP h).1 = true ∧ reachR (cleanP h).1 = reachR h ∧ (cleanP h).1.l = reachR h ∧ ((cleanP (cleanP h).1).2 : Nat) = 0 ∧ (reachR h).length = h.f.length ∧ (∀ k, (reachR h).getD k false = true → ∀ y ∈ h.f.getD k [], 0 ≤ y → (reachR h).getD y.toNat false = true) := by
  have g := good_iff.1 hg
  have k := Cln.of g
  have gc := k.good g
  have hgc := good_iff.2 gc
  have hb : both h (cleanP h).1 = true := by unfold both; rw [hg, hgc]; rfl
  have hs : Same h (cleanP h).1 := ⟨k.r.symm, fun i => ⟨(k.reach g i).symm, fun q => by rw [k.f, if_pos (reachL_getD.2 ⟨(reach_in g q).1, q⟩)]⟩⟩
  have hr : reachR (cleanP h).1 = reachR h := by rw [reachR_yes hgc, reachR_yes hg]; exact k.reachL g
  refine ⟨hgc, by unfold sameQ; rw [hb, sameP_iff.2 hs]; rfl, hb, hr, by rw [reachR_yes hg]; exact k.l, ?_, by rw [reachR_yes hg, reachL_length], fun i hi y hy y0 => ?_⟩
  · rw [cleanP_yes hgc, keepTo_all _ _ (fun i hi => ?_)]
    rw [k.reachL g, ← k.l]; exact hi
  · rw [reachR_yes hg] at hi ⊢
    have hy' : ((y.toNat : Nat) : Int) ∈ h.f.getD i [] := by rw [Int.toNat_of_nonneg y0]; exact hy
    have hr : Reach h.f h.r y.toNat := .step (reachL_getD.1 hi).2 hy'
    exact reachL_getD.2 ⟨(reach_in g hr).1, hr⟩
end Go.Proofs.Ytdagkbgobnaijaa.Ph
namespace Go.Proofs.Ytdagkbgobnaijaa.Ph
theorem setF_facts {h : H} {t f z : Int} (hok : setFOk h t f z = true) : ∃ tn fn : Nat, t = tn ∧ f = fn ∧ tn < h.f.length ∧ fn < (h.f.getD tn []).length ∧ (setF h t f z).f.length = h.f.length ∧ (setF h t f z).l.length = h.l.length ∧ (setF h t f z).r.length = h.r.length ∧ (∀ k, (setF h t f z).f.getD k [] = if k = tn then (h.f.getD tn []).set fn z else h.f.getD k []) ∧ good h = true := by
  have hok' := hok
  unfold setFOk at hok'
  simp only [Bool.and_eq_true] at hok'
  obtain ⟨⟨hg, hb⟩, _⟩ := hok'
  obtain ⟨tn, fn, rfl, rfl, h1, h2⟩ := hasFB_iff hb (good_iff.1 hg)
  refine ⟨tn, fn, rfl, rfl, h1, h2, ?_⟩
  rw [setF_yes hok, Int.toNat_natCast, Int.toNat_natCast]
  exact ⟨by simp only [List.length_set], rfl, rfl, fun k => by simp only; rw [getD_setL h1], hg⟩
/-- The place that a new object takes was none's. -/
theorem place_dead (l : List Bool) : l.getD (placeOf l) false = false := by
  by_cases hp : placeOf l < l.length
  · have : (fun b => !b) l[placeOf l] = true := List.findIdx_getElem (w := hp)
    simp only [Bool.not_eq_true'] at this
    simp [List.getD, List.getElem?_eq_getElem hp, this]
  · simp [List.getD, List.getElem?_eq_none (Nat.le_of_not_lt hp)]
structure New (h N : H) (p m : Nat) : Prop where
  n : N.f.length = N.l.length ∧ N.f.length ≤ 12 ∧ p < N.f.length
  f : ∀ i, N.f.getD i [] = if i = p then List.replicate m (-1) else h.f.getD i []
  l : ∀ i, N.l.getD i false = if i = p then true else h.l.getD i false
  r : N.r = h.r
  d : h.l.getD p false = false
theorem New.of {h : H} {m : Int} (hok : newOk h m = true) : New h (newP h m).1 (newP h m).2 m.toNat := by
  have hok' := hok
  unfold newOk at hok'
  simp only [Bool.and_eq_true, decide_eq_true_eq] at hok'
  have g := good_iff.1 hok'.1.1.1
  have h12 := hok'.2
  have hle := place_le h.l
  have hll := g.ll
  have hn := g.n
  rw [newP_yes hok]
  simp only
  have hd := place_dead h.l
  unfold put1 grown1
  by_cases hp : placeOf h.l < h.l.length
  · rw [if_pos hp]
    refine ⟨by simp only [List.length_set]; omega, fun i => ?_, fun i => ?_, rfl, hd⟩
    · simp only; rw [getD_setL (by omega)]
    · simp only; rw [getD_set (by omega)]
  · rw [if_neg hp]
    have hpe : placeOf h.l = h.l.length := by omega
    refine ⟨by simp; omega, fun i => ?_, fun i => ?_, rfl, hd⟩
    · simp only
      rw [getD_setL (by simp; omega)]
      by_cases e : i = placeOf h.l
      · rw [if_pos e, if_pos e]
      · rw [if_neg e, if_neg e]
        by_cases hi : i < h.f.length
        · simp [List.getD, List.getElem?_append_left hi]
        · have h1 : (h.f ++ [([] : List Int)])[i]? = none := List.getElem?_eq_none (by simp; omega)
          have h2 : h.f[i]? = none := List.getElem?_eq_none (by omega)
          simp [List.getD, h1, h2]
    · simp only
      rw [getD_set (by simp; omega)]
      by_cases e : i = placeOf h.l
      · rw [if_pos e, if_pos e]
      · rw [if_neg e, if_neg e]
        by_cases hi : i < h.l.length
        · simp [List.getD, List.getElem?_append_left hi]
        · have h1 : (h.l ++ [false])[i]? = none := List.getElem?_eq_none (by simp; omega)
          have h2 : h.l[i]? = none := List.getElem?_eq_none (by omega)
          simp [List.getD, h1, h2]
theorem New.ref {h N : H} {p m : Nat} (k : New h N p m) {zs : List Int} (hz : refsB h.l zs = true) : refsB N.l zs = true := by
  rw [refsB_iff] at hz ⊢
  intro z q
  rcases refB_iff.1 (hz z q) with e | e
  · exact refB_iff.2 (.inl e)
  · obtain ⟨e1, e2⟩ := liveB_iff.1 e
    refine refB_iff.2 (.inr (liveB_iff.2 ⟨e1, ?_⟩))
    rw [k.l]
    split
    · rfl
    · exact e2
theorem New.good {h N : H} {p m : Nat} (g : Good h) (hm : m ≤ 3) (k : New h N p m) : Good N := by
  refine ⟨k.n.2.1, k.n.1.symm, fun i hi => ?_, by rw [k.r]; exact g.rn, by rw [k.r]; exact k.ref g.rr⟩
  rw [k.f, k.l]
  by_cases e : i = p
  · rw [if_pos e, if_pos e]
    refine ⟨by simp; omega, .inl rfl, ?_⟩
    rw [refsB_iff]
    intro z hz
    exact refB_iff.2 (.inl (List.eq_of_mem_replicate hz))
  · rw [if_neg e, if_neg e]
    by_cases hi2 : i < h.f.length
    · exact ⟨(g.row i hi2).1, (g.row i hi2).2.1, k.ref (g.row i hi2).2.2⟩
    · have : h.f.getD i [] = [] := by simp [List.getD, List.getElem?_eq_none (Nat.le_of_not_lt hi2)]
      rw [this]
      exact ⟨by simp, .inr rfl, rfl⟩
theorem New.apart {h N : H} {p m : Nat} (g : Good h) (k : New h N p m) (i : Nat) (hr : Reach N.f N.r i) : i ≠ p := by
  have old : ∀ zs : List Int, refsB h.l zs = true → (i : Int) ∈ zs → i ≠ p := fun zs hz hi e => by
    rcases refs_bound g hz _ hi with q | ⟨_, _, q⟩
    · omega
    · have := k.d
      rw [← e] at this
      rw [Int.toNat_natCast, this] at q; cases q
  cases hr with
  | root hz => rw [k.r] at hz; exact old _ g.rr hz
  | step _ hz =>
    rename_i y _
    rw [k.f] at hz
    by_cases e : y = p
    · rw [if_pos e] at hz
      have := List.eq_of_mem_replicate hz
      omega
    · rw [if_neg e] at hz
      by_cases hy : y < h.f.length
      · exact old _ (g.row y hy).2.2 hz
      · rw [show h.f.getD y [] = [] by simp [List.getD, List.getElem?_eq_none (Nat.le_of_not_lt hy)]] at hz
        simp at hz
/-- What the law asks of a new object. -/
theorem new_facts {h : H} {m : Int} (hok : newOk h m = true) : good (newP h m).1 = true ∧ (reachR (newP h m).1).length = (newP h m).1.f.length ∧ (newP h m).2 < (newP h m).1.f.length ∧ (newP h m).1.l.length = (newP h m).1.f.length ∧ (reachR (newP h m).1).getD (newP h m).2 false = false ∧ (newP h m).1.l.getD (newP h m).2 false = true ∧ (((newP h m).1.f.getD (newP h m).2 []).length : Int) = m := by
  have hok' := hok
  unfold newOk at hok'
  simp only [Bool.and_eq_true, decide_eq_true_eq] at hok'
  have g := good_iff.1 hok'.1.1.1
  have k := New.of hok
  have gN := k.good g (by omega)
  have hg := good_iff.2 gN
  refine ⟨hg, by rw [reachR_yes hg, reachL_length], k.n.2.2, k.n.1.symm, ?_, by rw [k.l, if_pos rfl], by rw [k.f, if_pos rfl]; simp; omega⟩
  rw [reachR_yes hg]
  cases hq : (reachL (newP h m).1.f (newP h m).1.r).getD (newP h m).2 false with
  | false => rfl
  | true => exact absurd rfl (k.apart g _ (reachL_getD.1 hq).2)
end Go.Proofs.Ytdagkbgobnaijaa.Ph
namespace Go.Proofs.Ytdagkbgobnaijaa.Ph
structure Mv where
  k : Int
  a : Int
  b : Int
  t : Int
def keptB (cs : List Int) : List Bool := cs.map fun x => decide (x ≠ 0)
theorem keptB_len (cs : List Int) : (keptB cs).length = cs.length := by simp [keptB]
theorem keptB_get (cs : List Int) (i : Nat) : (keptB cs).getD i false = decide (cs.getD i 0 ≠ 0) := by
  unfold keptB
  by_cases e : i < cs.length
  · simp [List.getD, List.getElem?_eq_getElem e]
  · simp [List.getD, List.getElem?_eq_none (Nat.le_of_not_lt e)]
def keptR (h : H) (cs : List Int) : List Bool := if bothB h cs = true then keptB cs else []
theorem keptR_len (h : H) (cs : List Int) : (keptR h cs).length ≤ 1000 := by
  unfold keptR
  split
  · next hb => have := bothB_iff.1 hb; have := this.1.n; rw [keptB_len]; omega
  · simp
noncomputable def stepOk (h : H) (cs : List Int) (v : Mv) : Bool :=
  if v.k = 1 then decide (v.b = 0) && decide (v.t = 0) && decide (0 ≤ v.a) && decide (v.a ≤ 100) && !(ofC cs 1).isEmpty
  else if v.k = 2 then liveB (reachL h.f h.r) v.a && refB (reachL h.f h.r) v.t && setFOk h v.a v.b v.t
  else if v.k = 3 then decide (v.b = 0) && refB (reachL h.f h.r) v.t && setROk h v.a v.t
  else if v.k = 4 then decide (v.t = 0) && hasRB h v.b && newOk h v.a
  else false
def greyN (cs : List Int) (a : Int) : Nat := ((ofC cs 1).getD (a.toNat % (ofC cs 1).length) 0).toNat
def newC (cs : List Int) (p : Nat) (fresh : Int) : List Int := (if p = cs.length then cs ++ [0] else cs).set p fresh
def newH (h : H) (a b : Int) : H := ⟨(newP h a).1.f, (newP h a).1.l, (newP h a).1.r.set b.toNat ((newP h a).2 : Int)⟩
def stepH (h : H) (v : Mv) : H :=
  if v.k = 2 then setF h v.a v.b v.t else if v.k = 3 then setR h v.a v.t else if v.k = 4 then newH h v.a v.b else h
def wasOf (h : H) (v : Mv) : Int := if v.k = 2 then (h.f.getD v.a.toNat []).getD v.b.toNat 0 else if v.k = 3 then h.r.getD v.a.toNat 0 else h.r.getD v.b.toNat 0
def stepC (h : H) (cs : List Int) (v : Mv) (put : Bool) : List Int :=
  if v.k = 1 then scan cs (h.f.getD (greyN cs v.a) []) (greyN cs v.a)
  else if v.k = 4 then (if put = true then newC cs (newP h v.a).2 1 else shade (newC cs (newP h v.a).2 2) (wasOf h v))
  else shade cs (if put = true then v.t else wasOf h v)
/-- A scan of the chosen Grey object, where there is one. -/
def scanAt (h : H) (cs : List Int) (a : Int) : List Int := if ofC cs 1 = [] then cs else scan cs (h.f.getD (greyN cs a) []) (greyN cs a)
theorem scanAt_no {h : H} {cs : List Int} {a : Int} (e : ofC cs 1 = []) : scanAt h cs a = cs := by unfold scanAt; rw [if_pos e]
theorem scanAt_yes {h : H} {cs : List Int} {a : Int} (e : ofC cs 1 ≠ []) : scanAt h cs a = scan cs (h.f.getD (greyN cs a) []) (greyN cs a) := by unfold scanAt; rw [if_neg e]
theorem scanAt_len (h : H) (cs : List Int) (a : Int) : (scanAt h cs a).length = cs.length := by
  unfold scanAt; split
  · rfl
  · rw [scan_len]
theorem Col.scanAt {h : H} {cs : List Int} (hc : Col cs) (a : Int) : Col (scanAt h cs a) := by
  unfold Ph.scanAt; split
  · exact hc
  · exact hc.scan _ _
theorem greyN_is {cs : List Int} (hn : ofC cs 1 ≠ []) (a : Int) : greyN cs a < cs.length ∧ cs.getD (greyN cs a) 0 = 1 := by
  have h0 : 0 < (ofC cs 1).length := List.length_pos_iff.2 hn
  have hm : (ofC cs 1).getD (a.toNat % (ofC cs 1).length) 0 ∈ ofC cs 1 := getD_memI (Nat.mod_lt _ h0)
  obtain ⟨i, hi, h1, e⟩ := mem_ofC.1 hm
  unfold greyN
  rw [e, Int.toNat_natCast]
  exact ⟨hi, h1⟩
theorem scan_get {cs : List Int} {k : Nat} (hk : k < cs.length) (zs : List Int) (i : Nat) : (scan cs zs k).getD i 0 = if i = k then 2 else if cs.getD i 0 = 0 ∧ i < cs.length ∧ (i : Int) ∈ zs then 1 else cs.getD i 0 := by
  unfold scan
  rw [shades_get, getD_setI hk, List.length_set]
  by_cases e : i = k
  · rw [if_pos e, if_pos e, if_neg (by omega)]
  · rw [if_neg e, if_neg e]
theorem newC_len (cs : List Int) (p : Nat) (x : Int) : (newC cs p x).length = if p = cs.length then cs.length + 1 else cs.length := by
  unfold newC
  split <;> simp
theorem newC_get {cs : List Int} {p : Nat} (hp : p ≤ cs.length) (x : Int) (i : Nat) : (newC cs p x).getD i 0 = if i = p then x else cs.getD i 0 := by
  unfold newC
  by_cases e : p = cs.length
  · rw [if_pos e, getD_setI (by simp; omega)]
    by_cases q : i = p
    · rw [if_pos q, if_pos q]
    · rw [if_neg q, if_neg q]
      by_cases r : i < cs.length
      · simp [List.getD, List.getElem?_append_left r]
      · rw [getD_outI r, getD_outI (by simp; omega)]
  · rw [if_neg e, getD_setI (by omega)]
/-- What stays as dark as it was. -/
theorem shade_up (cs : List Int) (z : Int) (i : Nat) : cs.getD i 0 ≤ (shade cs z).getD i 0 := by
  rw [shade_get]; split <;> omega
theorem shade_ne {cs : List Int} {z : Int} {i : Nat} (h : cs.getD i 0 ≠ 0) : (shade cs z).getD i 0 = cs.getD i 0 := by
  rw [shade_get, if_neg (fun q => h q.1)]
theorem shade_two {cs : List Int} {z : Int} {i : Nat} : (shade cs z).getD i 0 = 2 ↔ cs.getD i 0 = 2 := by
  rw [shade_get]
  by_cases q : cs.getD i 0 = 0 ∧ i < cs.length ∧ z = i
  · rw [if_pos q]; constructor <;> intro <;> omega
  · rw [if_neg q]
theorem shade_on {cs : List Int} {i : Nat} (hi : i < cs.length) : (shade cs (i : Int)).getD i 0 ≠ 0 := by
  rw [shade_get]
  by_cases q : cs.getD i 0 = 0
  · rw [if_pos ⟨q, hi, rfl⟩]; omega
  · rw [if_neg (fun k => q k.1)]; exact q
/-- What a marking comes to: what is dark, and what the fields of what is not yet Black lead to from there. -/
inductive Prot (fs : List (List Int)) (cs : List Int) : Nat → Prop
  | dark {i : Nat} : cs.getD i 0 ≠ 0 → Prot fs cs i
  | step {g i : Nat} : cs.getD g 0 ≠ 2 → Prot fs cs g → (i : Int) ∈ fs.getD g [] → Prot fs cs i
structure InvS (h : H) (cs : List Int) : Prop where
  root : ∀ i : Nat, (i : Int) ∈ h.r → Prot h.f cs i
  blk : ∀ g i : Nat, cs.getD g 0 = 2 → (i : Int) ∈ h.f.getD g [] → Prot h.f cs i
theorem InvS.closed {h : H} {cs : List Int} (k : InvS h cs) {g i : Nat} (hg : Prot h.f cs g) (hi : (i : Int) ∈ h.f.getD g []) : Prot h.f cs i := by
  by_cases e : cs.getD g 0 = 2
  · exact k.blk g i e hi
  · exact .step e hg hi
theorem InvS.reach {h : H} {cs : List Int} (k : InvS h cs) {i : Nat} (hi : Reach h.f h.r i) : Prot h.f cs i := by
  induction hi with
  | root hz => exact k.root _ hz
  | step _ hz ih => exact k.closed ih hz
theorem InvS.start {h : H} (g : Good h) : InvS h (startC h) := by
  have m := Mk.start g
  exact ⟨fun i hi => .dark (m.root i hi), fun g i hg hi => .dark (m.snd g hg i hi)⟩
theorem Prot.mono {fs fs' : List (List Int)} {cs cs' : List Int} (h1 : ∀ i, cs.getD i 0 ≠ 0 → Prot fs' cs' i) (h2 : ∀ g i : Nat, cs.getD g 0 ≠ 2 → Prot fs' cs' g → (i : Int) ∈ fs.getD g [] → Prot fs' cs' i) {i : Nat} (hi : Prot fs cs i) : Prot fs' cs' i := by
  induction hi with
  | dark h => exact h1 _ h
  | step h _ hz ih => exact h2 _ _ h ih hz
theorem InvS.scan {h : H} {cs : List Int} {k : Nat} (G : Good h) (hl : cs.length = h.f.length) (s : InvS h cs) (hk : k < cs.length) : (∀ i, Prot h.f cs i → Prot h.f (scan cs (h.f.getD k []) k) i) ∧ InvS h (scan cs (h.f.getD k []) k) := by
  have get := scan_get hk (h.f.getD k [])
  have up : ∀ i, cs.getD i 0 ≠ 0 → (Ph.scan cs (h.f.getD k []) k).getD i 0 ≠ 0 := fun i hi => by
    rw [get]
    by_cases e : i = k
    · rw [if_pos e]; omega
    · rw [if_neg e, if_neg (fun q => hi q.1)]; exact hi
  have kid : ∀ i : Nat, (i : Int) ∈ h.f.getD k [] → (Ph.scan cs (h.f.getD k []) k).getD i 0 ≠ 0 := fun i hi => by
    rw [get]
    by_cases e : i = k
    · rw [if_pos e]; omega
    · rw [if_neg e]
      by_cases q : cs.getD i 0 = 0
      · rw [if_pos ⟨q, by rw [hl]; exact G.fieldIn hi, hi⟩]; omega
      · rw [if_neg (fun k => q k.1)]; exact q
  have mono : ∀ i, Prot h.f cs i → Prot h.f (Ph.scan cs (h.f.getD k []) k) i := fun i hi => hi.mono (fun i h => .dark (up i h)) fun g i h1 h2 h3 => by
    by_cases e : g = k
    · subst e; exact .dark (kid i h3)
    · refine .step ?_ h2 h3
      rw [get, if_neg e]
      split <;> omega
  refine ⟨mono, fun i hi => mono i (s.root i hi), fun g i hg hi => ?_⟩
  by_cases e : g = k
  · subst e; exact .dark (kid i hi)
  · rw [get, if_neg e] at hg
    by_cases q : cs.getD g 0 = 0 ∧ g < cs.length ∧ (g : Int) ∈ h.f.getD k []
    · rw [if_pos q] at hg; omega
    · rw [if_neg q] at hg; exact mono i (s.blk g i hg hi)
theorem InvS.shade {h : H} {cs : List Int} (s : InvS h cs) (z : Int) : (∀ i, Prot h.f cs i → Prot h.f (shade cs z) i) ∧ InvS h (shade cs z) := by
  have mono : ∀ i, Prot h.f cs i → Prot h.f (Ph.shade cs z) i := fun i hi => hi.mono (fun i h => .dark (by rw [shade_ne h]; exact h)) fun g i h1 h2 h3 => .step (fun q => h1 (shade_two.1 q)) h2 h3
  exact ⟨mono, fun i hi => mono i (s.root i hi), fun g i hg hi => mono i (s.blk g i (shade_two.1 hg) hi)⟩
end Go.Proofs.Ytdagkbgobnaijaa.Ph
namespace Go.Proofs.Ytdagkbgobnaijaa.Ph
theorem mem_setI {zs : List Int} {k : Nat} {x z : Int} (h : z ∈ zs.set k x) : z ∈ zs ∨ z = x := List.mem_or_eq_of_mem_set h
theorem mem_set_keep {zs : List Int} {k : Nat} {x z : Int} (h : z ∈ zs) : z ∈ zs.set k x ∨ z = zs.getD k 0 := by
  obtain ⟨i, hi, rfl⟩ := List.mem_iff_getElem.1 h
  by_cases e : i = k
  · subst e; right; simp [List.getD, List.getElem?_eq_getElem hi]
  · left
    have : (zs.set k x)[i]'(by simpa using hi) = zs[i] := by rw [List.getElem_set_ne (fun q => e q.symm)]
    rw [← this]; exact List.getElem_mem _
theorem liveR_iff {h : H} {z : Int} : liveB (reachL h.f h.r) z = true ↔ 0 ≤ z ∧ z.toNat < h.f.length ∧ Reach h.f h.r z.toNat := by
  rw [liveB_iff, reachL_getD]
theorem refR_iff {h : H} {z : Int} : refB (reachL h.f h.r) z = true ↔ z = -1 ∨ (0 ≤ z ∧ z.toNat < h.f.length ∧ Reach h.f h.r z.toNat) := by
  rw [refB_iff, liveR_iff]
/-- What a field is set to leaves a heap good. -/
theorem setF_good {h : H} {t f z : Int} (hok : setFOk h t f z = true) : Good (setF h t f z) := by
  obtain ⟨tn, fn, rfl, rfl, h1, h2, e1, e2, e3, ef, hg⟩ := setF_facts hok
  have g := good_iff.1 hg
  have hok' := hok
  unfold setFOk at hok'
  simp only [Bool.and_eq_true] at hok'
  have hz := hok'.2
  have hl : (setF h tn fn z).l = h.l := by rw [setF_yes hok]
  have hr : (setF h tn fn z).r = h.r := by rw [setF_yes hok]
  refine ⟨by rw [e1]; exact g.n, by rw [e1, e2]; exact g.ll, fun i hi => ?_, by rw [hr]; exact g.rn, by rw [hl, hr]; exact g.rr⟩
  rw [e1] at hi
  rw [ef, hl]
  by_cases e : i = tn
  · rw [if_pos e]
    have r := g.row tn h1
    refine ⟨by rw [List.length_set]; exact r.1, ?_, ?_⟩
    · rcases r.2.1 with q | q
      · left; rw [e]; exact q
      · rw [q] at h2; simp at h2
    · rw [refsB_iff]
      intro y hy
      rcases mem_setI hy with q | q
      · exact (refsB_iff.1 r.2.2) y q
      · rw [q]; exact hz
  · rw [if_neg e]; exact g.row i hi
theorem setR_good {h : H} {k z : Int} (hok : setROk h k z = true) : Good (setR h k z) ∧ 0 ≤ k ∧ k.toNat < h.r.length ∧ Good h := by
  have hok' := hok
  unfold setROk hasRB at hok'
  simp only [Bool.and_eq_true, decide_eq_true_eq] at hok'
  have g := good_iff.1 hok'.1.1
  rw [setR_yes hok]
  refine ⟨⟨g.n, g.ll, g.row, by simp only [List.length_set]; exact g.rn, ?_⟩, hok'.1.2.1, by omega, g⟩
  simp only
  rw [refsB_iff]
  intro y hy
  rcases mem_setI hy with q | q
  · exact (refsB_iff.1 g.rr) y q
  · rw [q]; exact hok'.2
theorem New.goodR {h N : H} {p m : Nat} (g : Good h) (hm : m ≤ 3) (k : New h N p m) (b : Nat) : Good ⟨N.f, N.l, N.r.set b (p : Int)⟩ := by
  have q := k.good g hm
  refine ⟨q.n, q.ll, q.row, by simp only [List.length_set]; exact q.rn, ?_⟩
  simp only
  rw [refsB_iff]
  intro y hy
  rcases mem_setI hy with e | e
  · exact (refsB_iff.1 q.rr) y e
  · rw [e]
    refine refB_iff.2 (.inr (liveB_iff.2 ⟨by omega, ?_⟩))
    rw [Int.toNat_natCast, k.l, if_pos rfl]
theorem newOk_iff {h : H} {m : Int} (hok : newOk h m = true) : Good h ∧ 0 ≤ m ∧ m ≤ 3 := by
  unfold newOk at hok
  simp only [Bool.and_eq_true, decide_eq_true_eq] at hok
  exact ⟨good_iff.1 hok.1.1.1, hok.1.1.2, hok.1.2⟩
theorem newP_place {h : H} {m : Int} (hok : newOk h m = true) : (newP h m).2 ≤ h.f.length ∧ (newP h m).1.f.length = if (newP h m).2 = h.f.length then h.f.length + 1 else h.f.length := by
  have g := (newOk_iff hok).1
  have hle := place_le h.l
  have hll := g.ll
  rw [newP_yes hok]
  simp only
  refine ⟨by omega, ?_⟩
  unfold put1 grown1
  by_cases hp : placeOf h.l < h.l.length
  · rw [if_pos hp, if_neg (by omega)]; simp
  · rw [if_neg hp, if_pos (by omega)]; simp
/-- Kinds of moves, as cases. -/
theorem step_cases {h : H} {cs : List Int} {v : Mv} (hok : stepOk h cs v = true) :
    (v.k = 1 ∧ v.b = 0 ∧ v.t = 0 ∧ 0 ≤ v.a ∧ v.a ≤ 100 ∧ ofC cs 1 ≠ []) ∨ (v.k = 2 ∧ liveB (reachL h.f h.r) v.a = true ∧ refB (reachL h.f h.r) v.t = true ∧ setFOk h v.a v.b v.t = true) ∨ (v.k = 3 ∧ v.b = 0 ∧ refB (reachL h.f h.r) v.t = true ∧ setROk h v.a v.t = true) ∨ (v.k = 4 ∧ v.t = 0 ∧ hasRB h v.b = true ∧ newOk h v.a = true) := by
  unfold stepOk at hok
  split at hok
  · next e =>
    simp only [Bool.and_eq_true, decide_eq_true_eq, Bool.not_eq_true', List.isEmpty_eq_false_iff] at hok
    exact .inl ⟨e, hok.1.1.1.1, hok.1.1.1.2, hok.1.1.2, hok.1.2, hok.2⟩
  · split at hok
    · next e =>
      simp only [Bool.and_eq_true] at hok
      exact .inr (.inl ⟨e, hok.1.1, hok.1.2, hok.2⟩)
    · split at hok
      · next e =>
        simp only [Bool.and_eq_true, decide_eq_true_eq] at hok
        exact .inr (.inr (.inl ⟨e, hok.1.1, hok.1.2, hok.2⟩))
      · split at hok
        · next e =>
          simp only [Bool.and_eq_true, decide_eq_true_eq] at hok
          exact .inr (.inr (.inr ⟨e, hok.1.1, hok.1.2, hok.2⟩))
        · cases hok
theorem stepH1 {h : H} {v : Mv} (e : v.k = 1) : stepH h v = h := by unfold stepH; rw [if_neg (by omega), if_neg (by omega), if_neg (by omega)]
theorem stepH2 {h : H} {v : Mv} (e : v.k = 2) : stepH h v = setF h v.a v.b v.t := by unfold stepH; rw [if_pos e]
theorem stepH3 {h : H} {v : Mv} (e : v.k = 3) : stepH h v = setR h v.a v.t := by unfold stepH; rw [if_neg (by omega), if_pos e]
theorem stepH4 {h : H} {v : Mv} (e : v.k = 4) : stepH h v = newH h v.a v.b := by unfold stepH; rw [if_neg (by omega), if_neg (by omega), if_pos e]
theorem stepC1 {h : H} {cs : List Int} {v : Mv} {put : Bool} (e : v.k = 1) : stepC h cs v put = scan cs (h.f.getD (greyN cs v.a) []) (greyN cs v.a) := by unfold stepC; rw [if_pos e]
theorem stepC23 {h : H} {cs : List Int} {v : Mv} {put : Bool} (e : v.k = 2 ∨ v.k = 3) : stepC h cs v put = shade cs (if put = true then v.t else wasOf h v) := by unfold stepC; rw [if_neg (by omega), if_neg (by omega)]
theorem stepC4 {h : H} {cs : List Int} {v : Mv} {put : Bool} (e : v.k = 4) : stepC h cs v put = (if put = true then newC cs (newP h v.a).2 1 else shade (newC cs (newP h v.a).2 2) (wasOf h v)) := by unfold stepC; rw [if_neg (by omega), if_pos e]
theorem Col.newC {cs : List Int} (hc : Col cs) {p : Nat} (hp : p ≤ cs.length) {x : Int} (h0 : 0 ≤ x) (h2 : x ≤ 2) : Col (newC cs p x) := fun i => by
  rw [newC_get hp]
  split
  · exact ⟨h0, h2⟩
  · exact hc i
/-- A move leaves a good marking good. -/
theorem step_good {h : H} {cs : List Int} {v : Mv} (put : Bool) (hb : bothB h cs = true) (hok : stepOk h cs v = true) : bothB (stepH h v) (stepC h cs v put) = true := by
  obtain ⟨g, hl, hc⟩ := bothB_iff.1 hb
  rw [bothB_iff]
  rcases step_cases hok with ⟨e, _⟩ | ⟨e, _, _, q⟩ | ⟨e, _, _, q⟩ | ⟨e, _, _, q⟩
  · rw [stepH1 e, stepC1 e]; exact ⟨g, by rw [scan_len, hl], hc.scan _ _⟩
  · rw [stepH2 e, stepC23 (.inl e)]; exact ⟨setF_good q, by rw [shade_len, hl]; obtain ⟨_, _, _, _, _, _, e1, _⟩ := setF_facts q; exact e1.symm, hc.shade _⟩
  · rw [stepH3 e, stepC23 (.inr e)]; exact ⟨(setR_good q).1, by rw [shade_len, hl, setR_yes q], hc.shade _⟩
  · have k := New.of q
    obtain ⟨_, m0, m3⟩ := newOk_iff q
    obtain ⟨p1, p2⟩ := newP_place q
    rw [stepH4 e, stepC4 e]
    refine ⟨k.goodR g (by omega) _, ?_, ?_⟩
    · have : (newH h v.a v.b).f.length = if (newP h v.a).2 = h.f.length then h.f.length + 1 else h.f.length := p2
      rw [this]
      split
      · rw [newC_len, hl]
      · rw [shade_len, newC_len, hl]
    · split
      · exact hc.newC (by omega) (by omega) (by omega)
      · exact (hc.newC (by omega) (by omega) (by omega)).shade _
/-- A move with the snapshot's barrier: what a marking comes to, it still comes to. -/
theorem step_prot {h : H} {cs : List Int} {v : Mv} (hb : bothB h cs = true) (hok : stepOk h cs v = true) (s : InvS h cs) : (∀ i, Prot h.f cs i → Prot (stepH h v).f (stepC h cs v false) i) ∧ InvS (stepH h v) (stepC h cs v false) := by
  obtain ⟨g, hl, hc⟩ := bothB_iff.1 hb
  rcases step_cases hok with ⟨e, _, _, _, _, q⟩ | ⟨e, ha, ht, q⟩ | ⟨e, _, ht, q⟩ | ⟨e, _, hrb, q⟩
  · rw [stepH1 e, stepC1 e]; exact s.scan g hl (greyN_is q _).1
  · rw [stepH2 e, stepC23 (.inl e), if_neg (by decide)]
    have hw : wasOf h v = (h.f.getD v.a.toNat []).getD v.b.toNat 0 := by unfold wasOf; rw [if_pos e]
    rw [hw]
    obtain ⟨tn, fn, ea, eb, h1, h2, _, _, _, ef, _⟩ := setF_facts q
    rw [ea, eb, Int.toNat_natCast, Int.toNat_natCast]
    rw [ea, eb] at ef
    have hr : (setF h tn fn v.t).r = h.r := by rw [ea, eb] at q; rw [setF_yes q]
    generalize hW : (h.f.getD tn []).getD fn 0 = W
    have mono : ∀ i, Prot h.f cs i → Prot (setF h tn fn v.t).f (shade cs W) i := fun i hi => hi.mono (fun i k => .dark (by rw [shade_ne k]; exact k)) fun y i k1 k2 k3 => by
      by_cases ey : y = tn
      · subst ey
        rcases mem_set_keep (k := fn) (x := v.t) k3 with r | r
        · exact .step (fun r => k1 (shade_two.1 r)) k2 (by rw [ef, if_pos rfl]; exact r)
        · rw [hW] at r
          rw [← r]
          exact .dark (shade_on (by rw [hl]; exact g.fieldIn k3))
      · exact .step (fun r => k1 (shade_two.1 r)) k2 (by rw [ef, if_neg ey]; exact k3)
    refine ⟨mono, fun i hi => mono i (s.root i (by rw [hr] at hi; exact hi)), fun y i k1 k2 => ?_⟩
    have k1' := shade_two.1 k1
    rw [ef] at k2
    by_cases ey : y = tn
    · subst ey
      rw [if_pos rfl] at k2
      rcases mem_setI k2 with r | r
      · exact mono i (s.blk _ i k1' r)
      · refine mono i (s.reach ?_)
        rcases refR_iff.1 ht with t | ⟨_, _, t⟩
        · omega
        · rw [← r, Int.toNat_natCast] at t; exact t
    · rw [if_neg ey] at k2; exact mono i (s.blk y i k1' k2)
  · rw [stepH3 e, stepC23 (.inr e), if_neg (by decide)]
    obtain ⟨m1, s1⟩ := s.shade (wasOf h v)
    rw [setR_yes q]
    refine ⟨m1, fun i hi => ?_, s1.blk⟩
    simp only at hi ⊢
    rcases mem_setI hi with r | r
    · exact s1.root i r
    · refine s1.reach ?_
      rcases refR_iff.1 ht with t | ⟨_, _, t⟩
      · omega
      · rw [← r, Int.toNat_natCast] at t; exact t
  · rw [stepH4 e, stepC4 e, if_neg (by decide)]
    have k := New.of q
    obtain ⟨_, m0, m3⟩ := newOk_iff q
    obtain ⟨p1, p2⟩ := newP_place q
    generalize wasOf h v = W
    have get := newC_get (cs := cs) (p := (newP h v.a).2) (by omega) 2
    have hF : (newH h v.a v.b).f = (newP h v.a).1.f := rfl
    have hR : (newH h v.a v.b).r = h.r.set v.b.toNat ((newP h v.a).2 : Int) := by unfold newH; simp only; rw [k.r]
    rw [hF]
    generalize hp : (newP h v.a).2 = p at *
    have pd : (shade (newC cs p 2) W).getD p 0 ≠ 0 := by
      have : (newC cs p 2).getD p 0 = 2 := by rw [get, if_pos rfl]
      rw [shade_ne (by omega)]; omega
    have hdead : ∀ i : Nat, (i : Int) ∈ h.f.getD p [] → False := fun i hi => by
      by_cases hpl : p < h.f.length
      · rcases (g.row p hpl).2.1 with r | r
        · have := k.d; rw [this] at r; cases r
        · rw [r] at hi; simp at hi
      · rw [show h.f.getD p [] = [] by simp [List.getD, List.getElem?_eq_none (Nat.le_of_not_lt hpl)]] at hi; simp at hi
    have mono : ∀ i, Prot h.f cs i → Prot (newP h v.a).1.f (shade (newC cs p 2) W) i := fun i hi => hi.mono (fun i k => by
        by_cases ei : i = p
        · rw [ei]; exact .dark pd
        · refine .dark ?_
          have : (newC cs p 2).getD i 0 = cs.getD i 0 := by rw [get, if_neg ei]
          rw [shade_ne (by omega)]; omega) fun y i k1 k2 k3 => by
      by_cases ey : y = p
      · subst ey; exact (hdead i k3).elim
      · refine .step (fun r => ?_) k2 (by rw [k.f, if_neg ey]; exact k3)
        have := shade_two.1 r
        rw [get, if_neg ey] at this
        exact k1 this
    refine ⟨mono, fun i hi => ?_, fun y i k1 k2 => ?_⟩
    · rw [hR] at hi
      rcases mem_setI hi with r | r
      · exact mono i (s.root i r)
      · rw [show i = p by omega]; exact .dark pd
    · rw [hF, k.f] at k2
      by_cases ey : y = p
      · rw [if_pos ey] at k2
        have := List.eq_of_mem_replicate k2
        omega
      · rw [if_neg ey] at k2
        have := shade_two.1 k1
        rw [get, if_neg ey] at this
        exact mono i (s.blk y i this k2)
/-- With the other barrier: what is Black names nothing White. -/
def InvP (h : H) (cs : List Int) : Prop := ∀ g i : Nat, cs.getD g 0 = 2 → (i : Int) ∈ h.f.getD g [] → cs.getD i 0 ≠ 0
theorem InvP.start {h : H} (g : Good h) : InvP h (startC h) := fun y i k1 k2 => (Mk.start g).snd y k1 i k2
theorem InvP.shade {h : H} {cs : List Int} (s : InvP h cs) (z : Int) : InvP h (shade cs z) := fun y i k1 k2 => by
  have := s y i (shade_two.1 k1) k2
  rw [shade_ne this]; exact this
theorem InvP.shades {h : H} (zs : List Int) : ∀ {cs : List Int}, InvP h cs → InvP h (shades cs zs) := by
  induction zs with
  | nil => intro cs s; exact s
  | cons z zs ih => intro cs s; rw [shades_cons]; exact ih (s.shade z)
theorem step_put {h : H} {cs : List Int} {v : Mv} (hb : bothB h cs = true) (hok : stepOk h cs v = true) (s : InvP h cs) : InvP (stepH h v) (stepC h cs v true) := by
  obtain ⟨g, hl, hc⟩ := bothB_iff.1 hb
  rcases step_cases hok with ⟨e, _, _, _, _, q⟩ | ⟨e, ha, ht, q⟩ | ⟨e, _, ht, q⟩ | ⟨e, _, hrb, q⟩
  · rw [stepH1 e, stepC1 e]
    have hk := (greyN_is q v.a).1
    generalize greyN cs v.a = k at *
    have get := scan_get hk (h.f.getD k [])
    intro y i k1 k2
    rw [get] at k1 ⊢
    by_cases ei : i = k
    · rw [if_pos ei]; omega
    · rw [if_neg ei]
      by_cases ey : y = k
      · subst ey
        by_cases r : cs.getD i 0 = 0
        · rw [if_pos ⟨r, by rw [hl]; exact g.fieldIn k2, k2⟩]; omega
        · rw [if_neg (fun t => r t.1)]; exact r
      · rw [if_neg ey] at k1
        by_cases r : cs.getD y 0 = 0 ∧ y < cs.length ∧ (y : Int) ∈ h.f.getD k []
        · rw [if_pos r] at k1; omega
        · rw [if_neg r] at k1
          have t := s y i k1 k2
          rw [if_neg (fun u => t u.1)]; exact t
  · rw [stepH2 e, stepC23 (.inl e), if_pos rfl]
    obtain ⟨tn, fn, ea, eb, h1, h2, _, _, _, ef, _⟩ := setF_facts q
    intro y i k1 k2
    rw [ef] at k2
    have k1' := shade_two.1 k1
    by_cases ey : y = tn
    · subst ey
      rw [if_pos rfl] at k2
      rcases mem_setI k2 with r | r
      · have := s _ i k1' r
        rw [shade_ne this]; exact this
      · rcases refR_iff.1 ht with t | ⟨_, t, _⟩
        · omega
        · rw [← r] at t ⊢; exact shade_on (by rw [hl]; omega)
    · rw [if_neg ey] at k2
      have := s y i k1' k2
      rw [shade_ne this]; exact this
  · rw [stepH3 e, stepC23 (.inr e), if_pos rfl, setR_yes q]
    exact s.shade _
  · rw [stepH4 e, stepC4 e, if_pos rfl]
    have k := New.of q
    obtain ⟨p1, p2⟩ := newP_place q
    have get := newC_get (cs := cs) (p := (newP h v.a).2) (by omega) 1
    have hF : (newH h v.a v.b).f = (newP h v.a).1.f := rfl
    intro y i k1 k2
    rw [hF, k.f] at k2
    rw [get] at k1 ⊢
    by_cases ey : y = (newP h v.a).2
    · rw [if_pos ey] at k1; omega
    · rw [if_neg ey] at k1 k2
      split
      · omega
      · exact s y i k1 k2
/-- What lives is no lighter behind a move. -/
theorem step_up {h : H} {cs : List Int} {v : Mv} (put : Bool) (hb : bothB h cs = true) (hok : stepOk h cs v = true) (i : Nat) (hi : h.l.getD i false = true) : cs.getD i 0 ≤ (stepC h cs v put).getD i 0 := by
  obtain ⟨g, hl, hc⟩ := bothB_iff.1 hb
  rcases step_cases hok with ⟨e, _, _, _, _, q⟩ | ⟨e, ha, ht, q⟩ | ⟨e, _, ht, q⟩ | ⟨e, _, hrb, q⟩
  · rw [stepC1 e, scan_get (greyN_is q v.a).1]
    have := hc i
    split
    · omega
    · split <;> omega
  · rw [stepC23 (.inl e)]; exact shade_up _ _ _
  · rw [stepC23 (.inr e)]; exact shade_up _ _ _
  · have k := New.of q
    obtain ⟨p1, p2⟩ := newP_place q
    have ne : i ≠ (newP h v.a).2 := fun r => by have := k.d; rw [← r, hi] at this; cases this
    rw [stepC4 e]
    split
    · rw [newC_get (by omega), if_neg ne]; exact Int.le_refl _
    · have : (newC cs (newP h v.a).2 2).getD i 0 = cs.getD i 0 := by rw [newC_get (by omega), if_neg ne]
      rw [← this]
      exact shade_up _ _ _
end Go.Proofs.Ytdagkbgobnaijaa.Ph
namespace Go.Proofs.Ytdagkbgobnaijaa.Ph
/-- The first Grey object is scanned. -/
def scanF (h : H) (cs : List Int) : List Int := scanAt h cs 0
def finN (h : H) (cs : List Int) : Nat → List Int
  | 0 => cs
  | n + 1 => scanF h (finN h cs n)
def finC (h : H) (cs : List Int) : List Int := finN h cs 12
theorem scanF_no {h : H} {cs : List Int} (e : ofC cs 1 = []) : scanF h cs = cs := scanAt_no e
theorem scanF_yes {h : H} {cs : List Int} (e : ofC cs 1 ≠ []) : scanF h cs = scan cs (h.f.getD (greyN cs 0) []) (greyN cs 0) := scanAt_yes e
theorem scanF_len (h : H) (cs : List Int) : (scanF h cs).length = cs.length := scanAt_len _ _ _
theorem Col.scanF {h : H} {cs : List Int} (hc : Col cs) : Col (scanF h cs) := hc.scanAt _
theorem finN_len (h : H) (cs : List Int) (n : Nat) : (finN h cs n).length = cs.length := by
  induction n with
  | zero => rfl
  | succ n ih => simp only [finN]; rw [scanF_len, ih]
theorem Col.finN {h : H} {cs : List Int} (hc : Col cs) (n : Nat) : Col (finN h cs n) := by
  induction n with
  | zero => exact hc
  | succ n ih => exact ih.scanF
theorem finN_stop {h : H} {cs : List Int} {n : Nat} (e : ofC (finN h cs n) 1 = []) (m : Nat) : finN h cs (n + m) = finN h cs n := by
  induction m with
  | zero => rfl
  | succ m ih => rw [← Nat.add_assoc]; simp only [finN]; rw [ih, scanF_no e]
theorem finC_stop {h : H} {cs : List Int} {n : Nat} (e : ofC (finN h cs n) 1 = []) (hn : n ≤ 12) : finC h cs = finN h cs n := by
  have := finN_stop e (12 - n)
  rw [Nat.add_sub_cancel' hn] at this
  exact this
theorem blk_scanF {h : H} {cs : List Int} (hl : cs.length = h.f.length) (e : ofC cs 1 ≠ []) : blk (scanF h cs) h.f.length = blk cs h.f.length + 1 := by
  obtain ⟨hk, h1⟩ := greyN_is e 0
  rw [scanF_yes e]
  generalize greyN cs 0 = k at *
  have get := scan_get hk (h.f.getD k [])
  rw [blk_one (cs := cs) (k := k) (by omega) (by rw [get, if_pos rfl]) (fun i ne => ?_), if_pos (by omega)]
  rw [get, if_neg ne]
  by_cases q : cs.getD i 0 = 0 ∧ i < cs.length ∧ (i : Int) ∈ h.f.getD k []
  · rw [if_pos q]; constructor <;> intro <;> omega
  · rw [if_neg q]
theorem finN_blk {h : H} {cs : List Int} (hl : cs.length = h.f.length) (n : Nat) (hn : ∀ m, m < n → ofC (finN h cs m) 1 ≠ []) : n ≤ blk (finN h cs n) h.f.length := by
  induction n with
  | zero => omega
  | succ n ih =>
    have := ih fun m hm => hn m (by omega)
    have e := blk_scanF (h := h) (cs := finN h cs n) (by rw [finN_len, hl]) (hn n (by omega))
    simp only [finN]; omega
theorem finC_done {h : H} {cs : List Int} (hl : cs.length = h.f.length) (h12 : h.f.length ≤ 12) : ofC (finC h cs) 1 = [] := by
  by_cases q : ∃ m, m < 13 ∧ ofC (finN h cs m) 1 = []
  · obtain ⟨m, hm, e⟩ := q
    rw [finC_stop e (by omega)]; exact e
  · have := finN_blk (h := h) hl 13 fun m hm e => q ⟨m, hm, e⟩
    have := blk_le (finN h cs 13) h.f.length
    omega
/-- Whatever the scans keep, the end keeps. -/
theorem fin_keeps {h : H} {P : List Int → Prop} (hs : ∀ cs, cs.length = h.f.length → P cs → ofC cs 1 ≠ [] → P (scan cs (h.f.getD (greyN cs 0) []) (greyN cs 0))) {cs : List Int} (hl : cs.length = h.f.length) (h0 : P cs) (n : Nat) : P (finN h cs n) := by
  induction n with
  | zero => exact h0
  | succ n ih =>
    simp only [finN]
    by_cases e : ofC (finN h cs n) 1 = []
    · rw [scanF_no e]; exact ih
    · rw [scanF_yes e]; exact hs _ (by rw [finN_len, hl]) ih e
def cols0 (h : H) (cs : List Int) (put : Bool) : List Int := if put = true then shades cs h.r else cs
theorem cols0_len (h : H) (cs : List Int) (put : Bool) : (cols0 h cs put).length = cs.length := by unfold cols0; split; exact shades_len _ _; rfl
theorem Col.cols0 {h : H} {cs : List Int} (hc : Col cs) (put : Bool) : Col (cols0 h cs put) := by unfold Ph.cols0; split; exact hc.shades; exact hc
def endC7 (h : H) (cs : List Int) (put : Bool) : List Int := finC h (cols0 h cs put)
theorem endC7_len (h : H) (cs : List Int) (put : Bool) : (endC7 h cs put).length = cs.length := by unfold endC7 finC; rw [finN_len, cols0_len]
def endM (h : H) (cs : List Int) (put : Bool) : H × List Int × Nat :=
  if bothB h cs = true then ((keepTo h (keptB (endC7 h cs put)) h.f.length).1, endC7 h cs put, (keepTo h (keptB (endC7 h cs put)) h.f.length).2) else (⟨[], [], []⟩, [], 0)
theorem endM_yes {h : H} {cs : List Int} (put : Bool) (hb : bothB h cs = true) : endM h cs put = ((keepTo h (keptB (endC7 h cs put)) h.f.length).1, endC7 h cs put, (keepTo h (keptB (endC7 h cs put)) h.f.length).2) := by unfold endM; rw [if_pos hb]
theorem endM_no {h : H} {cs : List Int} (put : Bool) (hb : bothB h cs = false) : endM h cs put = (⟨[], [], []⟩, [], 0) := by unfold endM; rw [hb]; rfl
/-- The sizes of what is kept. -/
theorem keep_small {h : H} (g : Good h) (ks : List Bool) (n : Nat) : (keepTo h ks n).1.f.length = h.f.length ∧ (keepTo h ks n).1.l.length = h.f.length ∧ (keepTo h ks n).1.r = h.r ∧ (∀ i, ((keepTo h ks n).1.f.getD i []).length ≤ 3) := by
  refine ⟨(keepTo_len h ks n).1, by rw [(keepTo_len h ks n).2.1, g.ll], (keepTo_len h ks n).2.2.1, ?_⟩
  have row : ∀ i, (h.f.getD i []).length ≤ 3 := fun i => by
    by_cases hi : i < h.f.length
    · exact (g.row i hi).1
    · rw [show h.f.getD i [] = [] by simp [List.getD, List.getElem?_eq_none (Nat.le_of_not_lt hi)]]; simp
  induction n with
  | zero => exact row
  | succ n ih =>
    intro i
    simp only [keepTo, keepStep]
    split
    · simp only
      by_cases q : n < (keepTo h ks n).1.f.length
      · rw [getD_setL q]; split
        · simp
        · exact ih i
      · rw [List.set_eq_of_length_le (by omega)]; exact ih i
    · exact ih i
theorem endM_wt (h : H) (cs : List Int) (put : Bool) : wtH (endM h cs put).1 + (endM h cs put).2.1.length ≤ 2000 := by
  cases hb : bothB h cs with
  | false => rw [endM_no put hb]; decide
  | true =>
    rw [endM_yes put hb]
    simp only
    obtain ⟨g, hl, _⟩ := bothB_iff.1 hb
    obtain ⟨e1, e2, e3, e4⟩ := keep_small g (keptB (endC7 h cs put)) h.f.length
    have h12 := g.n
    rw [endC7_len, hl]
    have := small_wt (h := (keepTo h (keptB (endC7 h cs put)) h.f.length).1) (by omega) (fun i _ => e4 i) (by omega) (by rw [e3]; exact g.rn)
    omega
/-- What is left when a marking has ended. -/
structure Left (h : H) (cs0 e : List Int) (c : H) : Prop where
  good : good c = true
  both : bothB c e = true
  same : sameQ h c = true
  kept : ∀ i, Prot h.f cs0 i → e.getD i 0 ≠ 0
  rch : ∀ i, Reach h.f h.r i → e.getD i 0 ≠ 0
  len : e.length = h.f.length
theorem left_of {h : H} {cs0 : List Int} (g : Good h) (hl : cs0.length = h.f.length) (hc : Col cs0) (s : InvS h cs0) : Left h cs0 (finC h cs0) (keepTo h (keptB (finC h cs0)) h.f.length).1 := by
  have none := finC_done (h := h) hl g.n
  obtain ⟨hk, hs⟩ := fin_keeps (h := h) (P := fun cs => (∀ i, Prot h.f cs0 i → Prot h.f cs i) ∧ InvS h cs) (fun cs hl k e => by
    obtain ⟨q1, q2⟩ := k.2.scan g hl (greyN_is e 0).1
    exact ⟨fun i hi => q1 i (k.1 i hi), q2⟩) hl ⟨fun i hi => hi, s⟩ 12
  have hl' : (finC h cs0).length = h.f.length := by unfold finC; rw [finN_len, hl]
  have hc' : Col (finC h cs0) := hc.finN 12
  change (∀ i, Prot h.f cs0 i → Prot h.f (finC h cs0) i) at hk
  change InvS h (finC h cs0) at hs
  generalize finC h cs0 = e at *
  have no1 : ∀ i, e.getD i 0 ≠ 1 := fun i hi => by
    have hlt : i < e.length := by
      by_cases q : i < e.length
      · exact q
      · rw [getD_outI q] at hi; omega
    have : (i : Int) ∈ ofC e 1 := mem_ofC.2 ⟨i, hlt, hi, rfl⟩
    rw [none] at this; simp at this
  have dark : ∀ i, Prot h.f e i → e.getD i 0 ≠ 0 := fun i hi => by
    induction hi with
    | dark q => exact q
    | @step y i q _ hz ih => exact absurd (by have := hc' y; have := no1 y; omega) q
  have kept : ∀ i, Prot h.f cs0 i → e.getD i 0 ≠ 0 := fun i hi => dark i (hk i hi)
  have rch : ∀ i, Reach h.f h.r i → e.getD i 0 ≠ 0 := fun i hi => dark i (hs.reach hi)
  have kid : ∀ y i : Nat, e.getD y 0 ≠ 0 → (i : Int) ∈ h.f.getD y [] → e.getD i 0 ≠ 0 := fun y i hy hi => dark i (hs.closed (.dark hy) hi)
  obtain ⟨e1, e2, e3, _⟩ := keepTo_len h (keptB e) h.f.length
  have get := keepTo_get h (keptB e) g.ll h.f.length (Nat.le_refl _)
  have gl : ∀ i, (keepTo h (keptB e) h.f.length).1.l.getD i false = (h.l.getD i false && decide (e.getD i 0 ≠ 0)) := fun i => by
    rw [(get i).1, keptB_get]
    by_cases q : h.f.length ≤ i
    · have : h.l.getD i false = false := by
        have := g.ll
        simp [List.getD, List.getElem?_eq_none (show h.l.length ≤ i by omega)]
      rw [this]; rfl
    · simp [q]
  have gf : ∀ i, e.getD i 0 ≠ 0 → (keepTo h (keptB e) h.f.length).1.f.getD i [] = h.f.getD i [] := fun i hi => by
    rw [(get i).2, if_neg]
    intro q
    rw [keptB_get, decide_eq_true hi] at q
    cases q.2.1
  have gf0 : ∀ i, e.getD i 0 = 0 → (keepTo h (keptB e) h.f.length).1.f.getD i [] = [] := fun i hi => by
    rw [(get i).2]
    by_cases q : h.l.getD i false = true ∧ (keptB e).getD i false = false ∧ i < h.f.length
    · rw [if_pos q]
    · rw [if_neg q]
      by_cases hil : i < h.f.length
      · rcases (g.row i hil).2.1 with r | r
        · exact absurd ⟨r, by rw [keptB_get, hi]; rfl, hil⟩ q
        · exact r
      · simp [List.getD, List.getElem?_eq_none (Nat.le_of_not_lt hil)]
  generalize (keepTo h (keptB e) h.f.length).1 = c at *
  have ref : ∀ zs : List Int, refsB h.l zs = true → (∀ i : Nat, (i : Int) ∈ zs → e.getD i 0 ≠ 0) → refsB c.l zs = true := fun zs q r => by
    rw [refsB_iff] at q ⊢
    intro z hz
    rcases refB_iff.1 (q z hz) with t | t
    · exact refB_iff.2 (.inl t)
    · obtain ⟨t1, t2⟩ := liveB_iff.1 t
      refine refB_iff.2 (.inr (liveB_iff.2 ⟨t1, ?_⟩))
      rw [gl, t2, decide_eq_true (r z.toNat (by rw [Int.toNat_of_nonneg t1]; exact hz))]; rfl
  have gc : Good c := by
    refine ⟨by rw [e1]; exact g.n, by rw [e1, e2]; exact g.ll, fun i hi => ?_, by rw [e3]; exact g.rn, by rw [e3]; exact ref _ g.rr fun i hi => rch i (.root hi)⟩
    rw [e1] at hi
    by_cases q : e.getD i 0 = 0
    · rw [gf0 i q]; exact ⟨by simp, .inr rfl, rfl⟩
    · rw [gf i q, gl]
      have r := g.row i hi
      refine ⟨r.1, ?_, ref _ r.2.2 fun j hj => kid i j q hj⟩
      rcases r.2.1 with t | t
      · left; rw [t, decide_eq_true q]; rfl
      · exact .inr t
  have rr : ∀ i, Reach c.f c.r i ↔ Reach h.f h.r i := fun i => by
    constructor
    · intro q
      induction q with
      | root hz => rw [e3] at hz; exact .root hz
      | step _ hz ih =>
        rename_i y _ _
        by_cases t : e.getD y 0 = 0
        · rw [gf0 y t] at hz; simp at hz
        · rw [gf y t] at hz; exact .step ih hz
    · intro q
      induction q with
      | root hz => exact .root (by rw [e3]; exact hz)
      | step hy hz ih => exact .step ih (by rw [gf _ (rch _ hy)]; exact hz)
  refine ⟨good_iff.2 gc, bothB_iff.2 ⟨gc, by rw [hl', e1], hc'⟩, ?_, kept, rch, hl'⟩
  have hb : Ph.both h c = true := by unfold Ph.both; rw [good_iff.2 g, good_iff.2 gc]; rfl
  have hsm : Same h c := ⟨e3.symm, fun i => ⟨(rr i).symm, fun q => (gf i (rch i q)).symm⟩⟩
  unfold sameQ; rw [hb, sameP_iff.2 hsm]; rfl
end Go.Proofs.Ytdagkbgobnaijaa.Ph
namespace Go.Proofs.Ytdagkbgobnaijaa
open Go.RowKit Ph

abbrev mv (a b c d : Value) : Value := .agg #[a, b, c, d]
abbrev m4 (a b c d : Value) : Array Value := #[a, b, c, d]
abbrev nilS : Value := .slice none 0 0
/-- A list of ints in blocks between lo and hi. -/
def OwnC (w : World) (lo hi : Nat) (d : Value) (cs : List Int) : Prop := OwnH w lo hi (.slice none 0 0) (.slice none 0 0) d ⟨[], [], cs⟩
theorem OwnC.reads {w : World} {lo hi : Nat} {d : Value} {cs : List Int} (k : OwnC w lo hi d cs) : IntsAt w d cs := (OwnH.reads k).r
theorem OwnC.shape {w : World} {lo hi : Nat} {d : Value} {cs : List Int} (k : OwnC w lo hi d cs) : ∃ p q, d = .slice p cs.length q := k.reads.shape
theorem OwnC.own {w : World} {lo hi : Nat} {d : Value} {cs : List Int} (k : OwnC w lo hi d cs) : Own w lo d cs := by obtain ⟨us, k⟩ := k; exact FamH.roots k
theorem OwnC.of {w : World} {lo hi : Nat} {d : Value} {cs : List Int} (ho : Own w lo d cs) (hh : ∀ g, d.ownBlock = some g → g < hi) (hl : lo ≤ hi) : OwnC w lo hi d cs := by
  obtain ⟨us, k⟩ := OwnH.nil w lo lo
  exact ⟨us, k.putRoots ho hl fun g hg => .inl ⟨(owns_lt ho hg).1, hh g hg⟩⟩
theorem OwnC.set {w w' : World} {lo hi : Nat} {d : Value} {cs cs' : List Int} (k : OwnC w lo hi d cs) (ho : Own w' lo d cs') (hg : w.grownBy w' d.ownBlock) : OwnC w' lo hi d cs' ∧ Chg lo hi w w' := by
  obtain ⟨us, k⟩ := k
  exact ⟨⟨us, FamH.setRoots k hg ho⟩, Chg.of_grown hg fun g' hg' => by have := Fam.blk k (k := 2) (g := g') (by simp) hg'; exact ⟨this.1, this.2.1⟩⟩
theorem Chg.wide {lo hi lo' hi' : Nat} {w w' : World} (h : Chg lo hi w w') (h1 : lo' ≤ lo) (h2 : hi ≤ hi') : Chg lo' hi' w w' := ⟨h.os, h.tape, h.output, h.size, fun i hi hr => h.block i hi (by omega)⟩
/-- What a call owns of a marking: the heap's blocks and the colours' lie in two stretches. -/
def OwnM (w : World) (lo hi : Nat) (a b c d : Value) (h : H) (cs : List Int) : Prop :=
  ∃ l1 h1 l2 h2, OwnH w l1 h1 a b c h ∧ OwnC w l2 h2 d cs ∧ lo ≤ l1 ∧ h1 ≤ hi ∧ lo ≤ l2 ∧ h2 ≤ hi ∧ (h1 ≤ l2 ∨ h2 ≤ l1)
section
variable {w w' : World} {lo hi : Nat} {a b c d : Value} {h : H} {cs : List Int}
theorem OwnM.heap (k : OwnM w lo hi a b c d h cs) : HeapAt w a b c h := by obtain ⟨_, _, _, _, k, _⟩ := k; exact k.reads
theorem OwnM.cols (k : OwnM w lo hi a b c d h cs) : IntsAt w d cs := by obtain ⟨_, _, _, _, _, k, _⟩ := k; exact k.reads
theorem OwnM.below (k : OwnM w lo hi a b c d h cs) (hb : Below w.heap.size w w') : OwnM w' lo hi a b c d h cs := by
  obtain ⟨l1, h1, l2, h2, k1, k2, r⟩ := k
  exact ⟨l1, h1, l2, h2, k1.below hb, OwnH.below k2 hb, r⟩
theorem OwnM.chg {lo' hi' : Nat} (k : OwnM w lo hi a b c d h cs) (hc : Chg lo' hi' w w') (hd : hi ≤ lo' ∨ hi' ≤ lo) : OwnM w' lo hi a b c d h cs := by
  obtain ⟨l1, h1, l2, h2, k1, k2, r⟩ := k
  exact ⟨l1, h1, l2, h2, k1.chg hc (by omega), OwnH.chg k2 hc (by omega), r⟩
theorem OwnM.wide (k : OwnM w lo hi a b c d h cs) {lo' hi' : Nat} (e1 : lo' ≤ lo) (e2 : hi ≤ hi') : OwnM w lo' hi' a b c d h cs := by
  obtain ⟨l1, h1, l2, h2, k1, k2, r⟩ := k
  exact ⟨l1, h1, l2, h2, k1, k2, by omega⟩
theorem OwnM.out (k : OwnM w lo hi a b c d h cs) (hb : ∀ i, lo ≤ i → w'.heap[i]? = w.heap[i]?) : OwnM w' lo hi a b c d h cs := by
  obtain ⟨l1, h1, l2, h2, k1, k2, r⟩ := k
  exact ⟨l1, h1, l2, h2, k1.out fun i hi => hb i (by omega), OwnH.out k2 fun i hi => hb i (by omega), r⟩
theorem OwnM.cell (k : OwnM w lo hi a b c d h cs) (p : Addr) (hp : p.block < lo) (x : Value) : OwnM (w.setCell p x) lo hi a b c d h cs := k.out fun i hi => heap_setCell_other w p i _ (by omega)
theorem OwnM.whole (k : OwnM w lo hi a b c d h cs) (g : Nat) (hp : g < lo) (xs : Array Value) : OwnM (w.setRow g xs) lo hi a b c d h cs := k.out fun i hi => setRow_other w g i xs (by omega)
theorem OwnM.shapes (k : OwnM w lo hi a b c d h cs) : (∃ p q, a = .slice p h.f.length q) ∧ (∃ p q, b = .slice p h.l.length q) ∧ (∃ p q, c = .slice p h.r.length q) ∧ (∃ p q, d = .slice p cs.length q) := ⟨k.heap.f.shape, k.heap.l.shape, k.heap.r.shape, k.cols.shape⟩
theorem OwnM.nil (w : World) (lo hi : Nat) (hl : lo ≤ hi) : OwnM w lo hi nilS nilS nilS nilS ⟨[], [], []⟩ [] := ⟨lo, hi, hi, hi, OwnH.nil _ _ _, OwnH.nil _ _ _, by omega, by omega, by omega, by omega, by omega⟩
/-- The heap first, the colours behind it. -/
theorem OwnM.hc {mid : Nat} (k : OwnH w lo mid a b c h) (o : OwnC w mid hi d cs) (h1 : lo ≤ mid) (h2 : mid ≤ hi) : OwnM w lo hi a b c d h cs := ⟨lo, mid, mid, hi, k, o, by omega, by omega, by omega, by omega, by omega⟩
theorem OwnM.ch {mid : Nat} (k : OwnH w mid hi a b c h) (o : OwnC w lo mid d cs) (h1 : lo ≤ mid) (h2 : mid ≤ hi) : OwnM w lo hi a b c d h cs := ⟨mid, hi, lo, mid, k, o, by omega, by omega, by omega, by omega, by omega⟩
end
theorem OwnC.ofOwn {w : World} {lo : Nat} {d : Value} {cs : List Int} (ho : Own w lo d cs) (hs : lo ≤ w.heap.size) : OwnC w lo w.heap.size d cs := OwnC.of ho (fun _ hg => (owns_lt ho hg).2) hs
theorem info_marking : (Try.prog.info? 34).map (·.size) = some 4 := by kernel_rfl
def RowM (w : World) (g : Nat) (a b c d : Value) : Prop := Row w g 34 (m4 a b c d)
theorem wl_loadM {ops : Array Oper} {rest : List Oper} {o : Oper} {q : Act} {w : World} {Q : Exit → Act → World → Prop} (hgd : o.guard = none) (x : Operand) (ho : o.op = .load 34 x) (g : Nat) (a b c d : Value) (hg : RowM w g a b c d)
    (hx : q.eval x = .pointer (some ⟨g, 0, none⟩)) (h : wpList Try.prog ops Q rest (q.put o.dst (mv a b c d)) w) : wpList Try.prog ops Q (o :: rest) q w :=
  wpList_load_row hgd 34 x ho g hx 34 (m4 a b c d) (0, 0) _ hg Try.underlying34 rfl info_marking h
theorem wl_storeM {ops : Array Oper} {rest : List Oper} {o : Oper} {q : Act} {w : World} {Q : Exit → Act → World → Prop} (hgd : o.guard = none) (x y : Operand) (ho : o.op = .store 34 x y) (g : Nat) (a b c d a0 b0 c0 d0 : Value) (hg : RowM w g a0 b0 c0 d0)
    (hx : q.eval x = .pointer (some ⟨g, 0, none⟩)) (hy : q.eval y = mv a b c d) (h1 : a.oneCell' = true) (h2 : b.oneCell' = true) (h3 : c.oneCell' = true) (h4 : d.oneCell' = true) (h : wpList Try.prog ops Q rest (q.put o.dst undef) (w.setRow g (m4 a b c d))) : wpList Try.prog ops Q (o :: rest) q w :=
  wpList_store_row hgd 34 x y ho g (m4 a b c d) hx hy 34 (m4 a0 b0 c0 d0) hg info_marking rfl (by simp [Value.oneCell']; exact ⟨h1, h2, h3, h4⟩) h

set_option maxHeartbeats 1600000 in
theorem c_szMarking_yes (a b c d : Value) (h : H) (cs : List Int) (left : Int) (w : World) (hA : HeapAt w a b c h) (hC : IntsAt w d cs) (h1 : left ≤ 1048576) (hw : (wtH h : Int) + cs.length ≤ left) : Calls Try.prog 15 #[mv a b c d, .int .i64 left] w fun e w' => e = .returned (.int .i64 (left - wtH h - cs.length)) ∧ Below w.heap.size w w' := by
  have hB := below1 w (.cells (m4 a b c d) 28)
  have HA := Lib.hid (hA.below hB)
  have HB := Lib.hid hB
  have R := Row.new w 28 (m4 a b c d)
  obtain ⟨da, dc, rfl⟩ := hC.shape
  clear hA hC hB
  generalize hn : cs.length = n at *
  clear hn
  have J1 : Hid ((wtH h : Int) ≤ left) := by unfold Hid; omega
  generalize hx : wtH h = x at *
  have HX := Lib.hid hx; clear hx
  have i1 : ¬ left - (x : Int) < 0 := by omega
  have i2 : ¬ left - (x : Int) - (n : Int) < 0 := by omega
  have J2 : Hid (left - (x : Int) ≤ 1048576 ∧ (n : Int) ≤ left - (x : Int)) := ⟨by omega, by omega⟩
  have RR := Lib.hid R; clear R
  go_enter Try.func15, Try.ntmps15
  go_wp2_with fail
  refine (c_szHeap_yes a b c h left _ HA.out h1 (by rw [HX.out]; omega)).mono ?_
  rintro e w1 ⟨rfl, hb1⟩
  rw [HX.out]
  have B1 := Lib.hid (bst HB.out hb1 HB.out.size)
  have q := Row.cell (Row.below RR.out hb1) 3
  clear hb1 RR HB HA
  go_wp2_with (first
    | (go_at_call 60; refine (c_szIntS_yes da n dc (left - x) _ J2.out.1 J2.out.2).mono ?_; rintro e w1 ⟨rfl, rfl⟩))
  go_ret
  exact ⟨r_i (by omega), B1.out⟩
set_option maxHeartbeats 1600000 in
theorem c_szMarking_no (a b c d : Value) (h : H) (cs : List Int) (left : Int) (w : World) (hA : HeapAt w a b c h) (hf : FitH h) (hC : IntsAt w d cs) (hn : cs.length ≤ 9223372036854775807) (h0 : 0 ≤ left) (h1 : left ≤ 1048576) (hw : left < (wtH h : Int) + cs.length) : Calls Try.prog 15 #[mv a b c d, .int .i64 left] w fun e w' => e = .returned (.int .i64 (-1)) ∧ Below w.heap.size w w' := by
  have hB := below1 w (.cells (m4 a b c d) 28)
  have HA := Lib.hid (hA.below hB)
  have HB := Lib.hid hB
  have R := Row.new w 28 (m4 a b c d)
  obtain ⟨da, dc, rfl⟩ := hC.shape
  have HF := Lib.hid hf
  clear hA hC hB hf
  generalize cs.length = n at *
  have HNN := Lib.hid hn; clear hn
  generalize hx : wtH h = x at *
  have HX := Lib.hid hx; clear hx
  have RR := Lib.hid R; clear R
  by_cases i1 : left < (x : Int)
  · have J1 : Hid (left < (wtH h : Int)) := by unfold Hid; rw [HX.out]; exact i1
    clear i1
    go_enter Try.func15, Try.ntmps15
    go_wp2_with fail
    refine (c_szHeap_no a b c h left _ HA.out HF.out h0 h1 J1.out).mono ?_
    rintro e w1 ⟨rfl, hb1⟩
    have B1 := Lib.hid (bst HB.out hb1 HB.out.size)
    clear hb1 RR HB HA
    go_wp2
    go_ret
    exact ⟨rfl, B1.out⟩
  · have J1 : Hid ((wtH h : Int) ≤ left) := by unfold Hid; rw [HX.out]; omega
    have k1 : ¬ left - (x : Int) < 0 := by omega
    have J2 : Hid (0 ≤ left - (x : Int) ∧ left - (x : Int) ≤ 1048576 ∧ left - (x : Int) < (n : Int)) := ⟨by omega, by omega, by omega⟩
    go_enter Try.func15, Try.ntmps15
    go_wp2_with fail
    refine (c_szHeap_yes a b c h left _ HA.out h1 J1.out).mono ?_
    rintro e w1 ⟨rfl, hb1⟩
    rw [HX.out]
    have B1 := Lib.hid (bst HB.out hb1 HB.out.size)
    have q := Row.cell (Row.below RR.out hb1) 3
    clear hb1 RR HB HA
    go_wp2_with (first
      | (go_at_call 60; refine (c_szIntS_no da n dc (left - x) _ J2.out.1 J2.out.2.1 HNN.out J2.out.2.2).mono ?_; rintro e w1 ⟨rfl, rfl⟩))
    go_ret
    exact ⟨rfl, B1.out⟩

set_option maxHeartbeats 1600000 in
theorem c_eqMarking (a b c d a' b' c' d' : Value) (h : H) (cs : List Int) (w : World) (hA : HeapAt w a b c h) (hC : IntsAt w d cs) (hA' : HeapAt w a' b' c' h) (hC' : IntsAt w d' cs) (hm : wtH h ≤ 1048576) (hn : cs.length ≤ 1048576) : Calls Try.prog 20 #[mv a b c d, mv a' b' c' d'] w fun e w' => e = .returned (.bool true) ∧ Below w.heap.size w w' := by
  have hB := (below1 w (.cells (m4 a b c d) 34)).alloc (by simp) (.cells (m4 a' b' c' d') 34)
  have HA := Lib.hid (hA.below hB); have HA' := Lib.hid (hA'.below hB); have HC := Lib.hid (hC.below hB); have HC' := Lib.hid (hC'.below hB)
  have HB := Lib.hid hB
  have R1 := Lib.hid (Row.alloc (Row.new w 34 (m4 a b c d)) (.cells (m4 a' b' c' d') 34))
  have R2 := Lib.hid (Row.new1 w (.cells (m4 a b c d) 34) 34 (m4 a' b' c' d'))
  clear hA hC hA' hC' hB
  have HM := Lib.hid hm; have HN := Lib.hid hn
  clear hm hn
  go_enter Try.func20, Try.ntmps20
  go_wp2_with fail
  refine (c_eqHeap a b c a' b' c' h _ HA.out HA'.out HM.out).mono ?_
  rintro e w1 ⟨rfl, hb1⟩
  have B1 := Lib.hid (bst HB.out hb1 HB.out.size)
  have q1 := Row.cell (Row.below R1.out hb1) 3
  have q2 := Row.cell (Row.below R2.out hb1) 3
  have D1 := Lib.hid (HC.out.below hb1); have D2 := Lib.hid (HC'.out.below hb1)
  clear hb1 R1 R2 HB HA HA' HC HC'
  go_wp2_with fail
  refine (c_eqIntS d d' cs cs _ D1.out D2.out (by have := HN.out; omega)).mono ?_
  rintro e w2 ⟨rfl, hw⟩
  rw [decide_eq_true (rfl : cs = cs)]
  have B2 : Hid (Below w.heap.size w w2) := by
    obtain ⟨n, rfl⟩ := hw
    exact below_drewN B1.out _
  clear hw q1 q2
  go_wp2
  go_ret
  exact ⟨rfl, B2.out⟩

set_option maxHeartbeats 1600000 in
theorem c_markMarking (lo hi : Nat) (a b c d : Value) (h : H) (cs : List Int) (k : Int) (w : World) (hown : OwnM w lo hi a b c d h cs) (h0 : 0 ≤ k) (hm : k + szM h + cs.length ≤ 9223372036854775806) (hl : h.f.length ≤ 9223372036854775806) (hs : hi ≤ w.heap.size) :
    Calls Try.prog 21 #[mv a b c d, .int .i64 k] w fun e w' => e = .returned (.int .i64 (k + szM h + cs.length)) ∧ OwnM w' lo hi a b c d (markH k h) (upFrom (k + szM h) cs.length) ∧ Chg lo hi w w' := by
  obtain ⟨l1, h1, l2, h2, k1, k2, e1, e2, e3, e4, e5⟩ := hown
  have hB := below1 w (.cells (m4 a b c d) 34)
  have K1 := Lib.hid (k1.below hB); have K2 := Lib.hid (OwnH.below k2 hB)
  have HB := Lib.hid hB
  have R1 := Lib.hid (Row.new w 34 (m4 a b c d))
  have HM := Lib.hid hm; have HL := Lib.hid hl; have HS := Lib.hid hs
  have E := Lib.hid (And.intro e1 (And.intro e2 (And.intro e3 (And.intro e4 e5))))
  clear k1 k2 hB hm hl hs e1 e2 e3 e4 e5
  go_enter Try.func21, Try.ntmps21
  go_wp2_with fail
  refine (c_markHeap l1 h1 a b c h k _ K1.out h0 (by have := HM.out; omega) HL.out (by have := E.out; have := HS.out; simp; omega)).mono ?_
  rintro e w1 ⟨rfl, ho1, hch1⟩
  have q := Row.cell (Row.chg R1.out hch1 (.inr (by have := E.out; have := HS.out; omega))) 3
  have O1 := Lib.hid ho1
  have C1 := Lib.hid (OwnH.chg K2.out hch1 (by have := E.out; omega))
  have CH := Lib.hid ((Chg.of_below (lo := lo) (hi := hi) HB.out).trans (hch1.wide (by have := E.out; omega) (by have := E.out; omega)))
  clear ho1 hch1 R1 HB K1 K2
  go_wp2_with fail
  have hr : Own _ l2 d cs := OwnC.own C1.out
  refine (c_markIntS d cs l2 (k + szM h) _ hr (by omega) (by have := HM.out; omega)).mono ?_
  rintro e w2 ⟨rfl, ho2, hg2⟩
  obtain ⟨o2, ch2⟩ := OwnC.set C1.out ho2 hg2
  have O2 := Lib.hid o2
  have O3 := Lib.hid (O1.out.chg ch2 (by have := E.out; omega))
  have CH2 := Lib.hid (CH.out.trans (ch2.wide (by have := E.out; omega) (by have := E.out; omega)))
  clear ho2 hg2 o2 ch2 q hr O1 C1 CH
  go_wp2
  go_ret
  exact ⟨rfl, ⟨l1, h1, l2, h2, O3.out, O2.out, E.out⟩, CH2.out⟩

set_option maxHeartbeats 1600000 in
theorem c_heldMarking (a b c d : Value) (h : H) (n : Nat) (k : Int) (w : World) (hA : HeapAt w a b c (markH k h)) (hC : IntsAt w d (upFrom (k + szM h) n)) (h0 : 0 ≤ k) (hm : k + szM h + n ≤ 9223372036854775806) (hl : h.f.length ≤ 9223372036854775806) :
    Calls Try.prog 22 #[mv a b c d, .int .i64 k] w fun e w' => e = .returned (.int .i64 (k + szM h + n)) ∧ Below w.heap.size w w' := by
  have hB := below1 w (.cells (m4 a b c d) 34)
  have HA := Lib.hid (hA.below hB); have HC := Lib.hid (hC.below hB)
  have HB := Lib.hid hB
  have R1 := Lib.hid (Row.new w 34 (m4 a b c d))
  have HM := Lib.hid hm; have HL := Lib.hid hl
  have i1 : ¬ k + (szM h : Int) < 0 := by omega
  have i2 : ¬ k + (szM h : Int) + (n : Int) < 0 := by omega
  clear hA hC hB hm hl
  go_enter Try.func22, Try.ntmps22
  go_wp2_with fail
  refine (c_heldHeap a b c h k _ HA.out h0 (by have := HM.out; omega) HL.out).mono ?_
  rintro e w1 ⟨rfl, hb1⟩
  have B1 := Lib.hid (bst HB.out hb1 HB.out.size)
  have q := Row.cell (Row.below R1.out hb1) 3
  have D1 := Lib.hid (HC.out.below hb1)
  have J : Hid (0 ≤ k + (szM h : Int) ∧ k + (szM h : Int) + (n : Int) ≤ 9223372036854775806) := ⟨by omega, HM.out⟩
  clear hb1 R1 HB HA HC
  go_wp2_with (first
    | (go_at_call 47; refine (c_heldIntS d n (k + szM h) _ D1.out J.out.1 J.out.2).mono ?_; rintro e w1 ⟨rfl, rfl⟩))
  go_ret
  exact ⟨rfl, B1.out⟩
set_option maxHeartbeats 1600000 in
theorem c_toMarking (a b c d : Value) (h : H) (cs : List Int) (w : World) (hA : HeapAt w a b c h) (hC : IntsAt w d cs) (hm : wtH h ≤ 1048576) (hn : cs.length ≤ 1048576) : Calls Try.prog 17 #[mv a b c d] w fun e w' => ∃ a' b' c' d', e = .returned (mv a' b' c' d') ∧ OwnM w' w.heap.size w'.heap.size a' b' c' d' h cs ∧ Below w.heap.size w w' := by
  have hb0 := (((below1 w (.cells (m4 a b c d) 28)).alloc (by simp) (.cells (m4 nilS nilS nilS nilS) 34)).alloc (by simp; omega) (.cells (m4 nilS nilS nilS nilS) 34))
  have rp : Row _ w.heap.size 28 (m4 a b c d) := ((Row.new w 28 (m4 a b c d)).alloc (.cells (m4 nilS nilS nilS nilS) 34)).alloc (.cells (m4 nilS nilS nilS nilS) 34)
  have r1 : RowM _ (w.heap.size + 1) nilS nilS nilS nilS := (Row.new1 w (.cells (m4 a b c d) 28) 34 (m4 nilS nilS nilS nilS)).alloc (.cells (m4 nilS nilS nilS nilS) 34)
  have r2 : RowM _ (w.heap.size + 1 + 1) nilS nilS nilS nilS := Row.new2 w (.cells (m4 a b c d) 28) (.cells (m4 nilS nilS nilS nilS) 34) 34 (m4 nilS nilS nilS nilS)
  have HB := Lib.hid hb0; have HA := Lib.hid (hA.below hb0); have HC := Lib.hid hC; have RP := Lib.hid rp; have R1 := Lib.hid r1; have R2 := Lib.hid r2
  have HM := Lib.hid hm; have HN := Lib.hid hn
  clear hb0 rp r1 r2 hA hC hm hn
  go_enter Try.func17, Try.ntmps17
  go_wp2_with fail
  refine (c_toHeap a b c h _ HA.out HM.out).mono ?_
  rintro e w1 ⟨a', b', c', rfl, ho1, hb1⟩
  have rp1 := RP.out.below hb1
  have r11 : RowM _ _ _ _ _ _ := Row.below R1.out hb1
  have r21 : RowM _ _ _ _ _ _ := Row.below R2.out hb1
  have hB1 := bst HB.out hb1 HB.out.size
  have hsz : ((((w.alloc (.cells (m4 a b c d) 28)).alloc (.cells (m4 nilS nilS nilS nilS) 34)).alloc (.cells (m4 nilS nilS nilS nilS) 34))).heap.size = w.heap.size + 3 := by simp
  rw [hsz] at ho1
  have hw1 : w.heap.size + 3 ≤ w1.heap.size := by have := hb1.size; rw [hsz] at this; exact this
  clear hb1 hsz HB HA RP R1 R2
  obtain ⟨⟨p1, q1, s1⟩, ⟨p2, q2, s2⟩, ⟨p3, q3, s3⟩⟩ := ho1.shapes
  have HSH := Lib.hid (And.intro s1 (And.intro s2 s3))
  clear s1 s2 s3
  have G1 : a' = .slice p1 h.f.length q1 := HSH.out.1
  have G2 : b' = .slice p2 h.l.length q2 := HSH.out.2.1
  have G3 : c' = .slice p3 h.r.length q3 := HSH.out.2.2
  clear HSH
  generalize h.f.length = nf at G1
  generalize h.l.length = nl at G2
  generalize h.r.length = nr at G3
  subst G1 G2 G3
  have f0 := Row.frozen r21 0
  have f1 := Row.frozen r21 1
  have f2 := Row.frozen r21 2
  have k0 := Row.cell r21 0
  have k1 := Row.cell r21 1
  have k2 := Row.cell r21 2
  have kd := Row.cell rp1 3
  have HO := Lib.hid ho1; have RP := Lib.hid rp1; have R1 := Lib.hid r11; have R2 := Lib.hid r21; have HB := Lib.hid hB1; have HW := Lib.hid hw1
  clear ho1 rp1 r11 r21 hB1
  have kd2 : (((w1.setCell ⟨w.heap.size + 1 + 1, 0, none⟩ (.slice p1 nf q1)).setCell ⟨w.heap.size + 1 + 1, 1, none⟩ (.slice p2 nl q2)).setCell ⟨w.heap.size + 1 + 1, 2, none⟩ (.slice p3 nr q3)).cell? ⟨w.heap.size, 3, none⟩ = some d := Row.cell (((RP.out.other ⟨w.heap.size + 1 + 1, 0, none⟩ (by simp; omega) _).other ⟨w.heap.size + 1 + 1, 1, none⟩ (by simp; omega) _).other ⟨w.heap.size + 1 + 1, 2, none⟩ (by simp; omega) _) 3
  go_wp2_with fail
  clear kd2 f0 f1 f2 k0 k1 k2 kd
  have B2 := ((HB.out.setCell (p := ⟨w.heap.size + 1 + 1, 0, none⟩) (by simp; omega) (.slice p1 nf q1)).setCell (p := ⟨w.heap.size + 1 + 1, 1, none⟩) (by simp; omega) (.slice p2 nl q2)).setCell (p := ⟨w.heap.size + 1 + 1, 2, none⟩) (by simp; omega) (.slice p3 nr q3)
  have o2 := ((HO.out.cell ⟨w.heap.size + 1 + 1, 0, none⟩ (by simp) (.slice p1 nf q1)).cell ⟨w.heap.size + 1 + 1, 1, none⟩ (by simp) (.slice p2 nl q2)).cell ⟨w.heap.size + 1 + 1, 2, none⟩ (by simp) (.slice p3 nr q3)
  have r12 : RowM _ _ _ _ _ _ := ((Row.other R1.out ⟨w.heap.size + 1 + 1, 0, none⟩ (by simp) (.slice p1 nf q1)).other ⟨w.heap.size + 1 + 1, 1, none⟩ (by simp) (.slice p2 nl q2)).other ⟨w.heap.size + 1 + 1, 2, none⟩ (by simp) (.slice p3 nr q3)
  have r22 : RowM (((w1.setCell ⟨w.heap.size + 1 + 1, 0, none⟩ (.slice p1 nf q1)).setCell ⟨w.heap.size + 1 + 1, 1, none⟩ (.slice p2 nl q2)).setCell ⟨w.heap.size + 1 + 1, 2, none⟩ (.slice p3 nr q3)) _ (.slice p1 nf q1) (.slice p2 nl q2) (.slice p3 nr q3) nilS := (Row.set (Row.set (Row.set R2.out 0 _) 1 _) 2 _).trans rfl
  have s2 : (((w1.setCell ⟨w.heap.size + 1 + 1, 0, none⟩ (.slice p1 nf q1)).setCell ⟨w.heap.size + 1 + 1, 1, none⟩ (.slice p2 nl q2)).setCell ⟨w.heap.size + 1 + 1, 2, none⟩ (.slice p3 nr q3)).heap.size = w1.heap.size := by rw [World.size_setCell, World.size_setCell, World.size_setCell]
  have c2 : IntsAt (((w1.setCell ⟨w.heap.size + 1 + 1, 0, none⟩ (.slice p1 nf q1)).setCell ⟨w.heap.size + 1 + 1, 1, none⟩ (.slice p2 nl q2)).setCell ⟨w.heap.size + 1 + 1, 2, none⟩ (.slice p3 nr q3)) d cs := HC.out.below B2
  rw [← s2] at hw1 o2
  clear HB HO R1 R2 HC RP
  generalize (((w1.setCell ⟨w.heap.size + 1 + 1, 0, none⟩ (.slice p1 nf q1)).setCell ⟨w.heap.size + 1 + 1, 1, none⟩ (.slice p2 nl q2)).setCell ⟨w.heap.size + 1 + 1, 2, none⟩ (.slice p3 nr q3)) = w2 at *
  refine (c_toIntS d cs _ c2 HN.out).mono ?_
  rintro e w3 ⟨d', rfl, ho3, hb3⟩
  have r13 : RowM _ _ _ _ _ _ := Row.below r12 hb3
  have r23 : RowM _ _ _ _ _ _ := Row.below r22 hb3
  have B3 := bst B2 hb3 B2.size
  have o3 := o2.below hb3
  have hw3 : w.heap.size + 3 ≤ w3.heap.size := by have := hb3.size; omega
  obtain ⟨p4, q4, G4⟩ := ho3.ints.shape
  generalize cs.length = nc at G4
  subst G4
  have oc := OwnC.ofOwn ho3 hb3.size
  have om := OwnM.hc o3 oc (by omega) hb3.size
  have om2 := om.cell ⟨w.heap.size + 1 + 1, 3, none⟩ (by simp) (.slice p4 nc q4)
  have r14 : RowM _ _ _ _ _ _ := Row.other r13 ⟨w.heap.size + 1 + 1, 3, none⟩ (by simp) (.slice p4 nc q4)
  have r24 : RowM (w3.setCell ⟨w.heap.size + 1 + 1, 3, none⟩ (.slice p4 nc q4)) _ (.slice p1 nf q1) (.slice p2 nl q2) (.slice p3 nr q3) (.slice p4 nc q4) := (Row.set r23 3 _).trans rfl
  have B4 := B3.setCell (p := ⟨w.heap.size + 1 + 1, 3, none⟩) (by simp; omega) (.slice p4 nc q4)
  have f3 := Row.frozen r23 3
  have k3 := Row.cell r23 3
  have R1 := Lib.hid r14; have R2 := Lib.hid r24; have HB := Lib.hid B4; have HO := Lib.hid om2
  clear r12 r22 B2 o2 hb3 ho3 c2 r13 r23 B3 o3 oc om om2 r14 r24 B4 s2
  go_wp2_with (first
    | (refine wl_loadM rfl _ rfl (w.heap.size + 1 + 1) _ _ _ _ R2.out rfl ?_)
    | (refine wl_storeM rfl _ _ rfl (w.heap.size + 1) (.slice p1 nf q1) (.slice p2 nl q2) (.slice p3 nr q3) (.slice p4 nc q4) _ _ _ _ R1.out rfl rfl rfl rfl rfl rfl ?_))
  refine bodyPost_ret (res_row Try.results17 (Row.put R1.out (m4 (.slice p1 nf q1) (.slice p2 nl q2) (.slice p3 nr q3) (.slice p4 nc q4))) rfl Try.underlying34 rfl info_marking) rfl ⟨_, _, _, _, rfl, ?_, below_setRow HB.out (by omega) _⟩
  have := HO.out.whole (w.heap.size + 1) (by omega) (m4 (.slice p1 nf q1) (.slice p2 nl q2) (.slice p3 nr q3) (.slice p4 nc q4))
  rw [size_setRow, World.size_setCell]
  exact this.wide (by omega) (Nat.le_refl _)
end Go.Proofs.Ytdagkbgobnaijaa
namespace Go.Proofs.Ytdagkbgobnaijaa
open Go.RowKit Ph

def EndM (h : H) (cs : List Int) (ok : Bool) (w : World) (e : Ending) (w' : World) : Prop := ∃ a b c d, e = .returned (.tuple #[mv a b c d, .bool ok]) ∧ OwnM w' w.heap.size w'.heap.size a b c d h cs ∧ Below w.heap.size w w'
def EndMI (h : H) (cs : List Int) (n : Int) (ok : Bool) (w : World) (e : Ending) (w' : World) : Prop := ∃ a b c d, e = .returned (.tuple #[mv a b c d, .int .i64 n, .bool ok]) ∧ OwnM w' w.heap.size w'.heap.size a b c d h cs ∧ Below w.heap.size w w'
theorem endM_none {w w' : World} {h : H} {cs : List Int} {ok : Bool} (hb : Below w.heap.size w w') (h1 : h = ⟨[], [], []⟩) (h2 : cs = []) (h3 : ok = false) : EndM h cs ok w (.returned (.tuple #[mv nilS nilS nilS nilS, .bool false])) w' := by
  subst h1; subst h2; subst h3
  exact ⟨_, _, _, _, rfl, OwnM.nil w' _ _ hb.size, hb⟩
theorem endMI_none {w w' : World} {h : H} {cs : List Int} {n : Int} {ok : Bool} (hb : Below w.heap.size w w') (h1 : h = ⟨[], [], []⟩) (h2 : cs = []) (h0 : n = 0) (h3 : ok = false) : EndMI h cs n ok w (.returned (.tuple #[mv nilS nilS nilS nilS, .int .i64 0, .bool false])) w' := by
  subst h1; subst h2; subst h3; subst h0
  exact ⟨_, _, _, _, rfl, OwnM.nil w' _ _ hb.size, hb⟩
abbrev c4m (a b c d : Value) : Obj := .cells (m4 a b c d) 34

set_option maxHeartbeats 1600000 in
theorem c_GoodMarking (a b c d : Value) (h : H) (cs : List Int) (w : World) (hA : HeapAt w a b c h) (hC : IntsAt w d cs) : Calls Try.prog 81 #[mv a b c d] w fun e w' => e = .returned (.bool (bothB h cs)) ∧ Below w.heap.size w w' := by
  have hb0 := below1 w (.cells (m4 a b c d) 34)
  have A0 := Lib.hid (hA.below hb0); have Z0 := Lib.hid (hC.below hb0)
  have HB := Lib.hid hb0
  clear hA hC hb0
  go_enter Try.func81, Try.ntmps81
  go_wp2_with fail
  refine (c_areColoursOf a b c d h cs _ A0.out Z0.out).mono ?_
  rintro e w1 ⟨rfl, hb1⟩
  have B1 := Lib.hid (bst HB.out hb1 HB.out.size)
  clear hb1
  go_wp2
  go_ret
  exact ⟨rfl, B1.out⟩
set_option maxHeartbeats 1600000 in
theorem s_GoodMarking (a b c d : Value) (h : H) (cs : List Int) (w : World) (hA : HeapAt w a b c h) (hC : IntsAt w d cs) : Calls Try.prog 77 #[mv a b c d] w fun e w' => e = .returned (.bool (bothB h cs)) ∧ Below w.heap.size w w' := by
  have hb0 := below1 w (.cells (m4 a b c d) 34)
  have A0 := Lib.hid (hA.below hb0); have Z0 := Lib.hid (hC.below hb0)
  have HB := Lib.hid hb0
  clear hA hC hb0
  go_enter Try.func77, Try.ntmps77
  go_wp2_with fail
  refine (s_l6Both a b c d h cs _ A0.out Z0.out).mono ?_
  rintro e w1 ⟨rfl, hb1⟩
  have B1 := Lib.hid (bst HB.out hb1 HB.out.size)
  clear hb1
  go_wp2
  go_ret
  exact ⟨rfl, B1.out⟩
end Go.Proofs.Ytdagkbgobnaijaa
namespace Go.Proofs.Ytdagkbgobnaijaa.Ph
/-- The first j colours' keeping, the others none. -/
def keptTo (cs : List Int) (j : Nat) : List Bool := (keptB cs).take j ++ List.replicate (cs.length - j) false
theorem keptTo_zero (cs : List Int) : keptTo cs 0 = List.replicate cs.length false := by simp [keptTo]
theorem keptTo_all (cs : List Int) : keptTo cs cs.length = keptB cs := by
  unfold keptTo
  rw [Nat.sub_self, List.take_of_length_le (by rw [keptB_len]; exact Nat.le_refl _)]; simp
theorem keptTo_len {cs : List Int} {j : Nat} (h : j ≤ cs.length) : (keptTo cs j).length = cs.length := by simp [keptTo, keptB_len]; omega
theorem keptB_take {cs : List Int} {j : Nat} (h : j < cs.length) : (keptB cs).take (j + 1) = (keptB cs).take j ++ [decide (cs.getD j 0 ≠ 0)] := by
  have hl : j < (keptB cs).length := by rw [keptB_len]; exact h
  rw [List.take_succ_eq_append_getElem hl]
  congr 2
  have := keptB_get cs j
  rw [← this]
  simp [List.getD, List.getElem?_eq_getElem hl]
theorem keptTo_set {cs : List Int} {j : Nat} (h : j < cs.length) : (keptTo cs j).set j (decide (cs.getD j 0 ≠ 0)) = keptTo cs (j + 1) := by
  unfold keptTo
  have e : List.replicate (cs.length - j) false = false :: List.replicate (cs.length - (j + 1)) false := by
    rw [show cs.length - j = (cs.length - (j + 1)) + 1 by omega, List.replicate_succ]
  have hl : ((keptB cs).take j).length = j := by simp [keptB_len]; omega
  rw [List.set_append_right j _ (by omega), hl, Nat.sub_self, e, List.set_cons_zero, keptB_take h, List.append_assoc]; rfl
end Go.Proofs.Ytdagkbgobnaijaa.Ph
namespace Go.Proofs.Ytdagkbgobnaijaa
open Go.RowKit Ph
theorem ne_zero_dec (z : Int) : (z != 0) = decide (z ≠ 0) := by
  by_cases e : z = 0
  · subst e; rfl
  · rw [decide_eq_true e]; simp [e]
set_option maxHeartbeats 3200000 in
set_option maxRecDepth 100000 in
theorem c_keptBy (v : Value) (cs : List Int) (w : World) (hz : IntsAt w v cs) (hm : cs.length ≤ 12) : Calls Try.prog 88 #[v] w fun e w' => ∃ v', e = .returned v' ∧ OwnBs w' w.heap.size v' (keptB cs) ∧ Below w.heap.size w w' := by
  obtain ⟨i0, hi, hz0, hz1, hz2⟩ := info_parts info_boolz
  have HZ := Lib.hid hz
  obtain ⟨va, vc, rfl⟩ := hz.shape
  clear hz
  have HS := Lib.hid (fun j => keptTo_set (cs := cs) (j := j)); have HL := Lib.hid (fun j => keptTo_len (cs := cs) (j := j)); have H0 := Lib.hid (keptTo_zero cs); have HA := Lib.hid (keptTo_all cs)
  generalize hn : cs.length = n at *
  have HN := Lib.hid hn; clear hn
  go_enter Try.func88, Try.ntmps88
  go_wp2_with (at_make; refine wpList_make_full _ rfl _ _ 23 rfl w.heap.size 4 i0 (.bool false) 1 Try.underlying23 hi hz0 hz1 .i64 .i64 _ _ n rfl rfl rfl rfl (by rw [hz2]; omega) (by unfold maxLen; omega) (by simp) ?_; intro w1 hown hgr
               rw [rep_bools] at hown
               have O1 : Hid (OwnBs w1 w.heap.size (.slice (some ⟨w.heap.size, 0, none⟩) n n) (keptTo cs 0)) := (by { unfold Hid OwnBs; rw [H0.out, List.length_replicate]; exact hown })
               have B1 := Lib.hid ((Below.refl w.heap.size w).grown hgr (Nat.le_refl _) (fun k hk => by cases hk))
               clear hown hgr)
  go_loopw [10] (fun i wr => ∃ j : Nat, j ≤ n ∧ i = .int .i64 j ∧ Hid (OwnBs wr w.heap.size (.slice (some ⟨w.heap.size, 0, none⟩) n n) (keptTo cs j)) ∧ Hid (Below w.heap.size w wr)) (fun i _ => n - (intOf i).toNat)
  case atStart => exact ⟨0, Nat.zero_le _, rfl, O1, B1⟩
  case round =>
    obtain ⟨j, hj, rfl, ho, hb⟩ := hrel
    by_cases hlt : j < n
    · obtain ⟨g, off, rfl, hc⟩ := (HZ.out.below hb.out).at' (by omega)
      have q := hc j hlt
      obtain ⟨s1, s2, s3, s4⟩ := ho.out.stored (HL.out j hj) hlt (decide (cs.getD j 0 ≠ 0))
      rw [HS.out j hlt] at s1
      have S1 := Lib.hid s1
      have B2 := Lib.hid (hb.out.grown s2 hb.out.size (fun k hk => by cases hk; exact Nat.le_refl _))
      have i1 : (j : Int) < (n : Int) := by omega
      have i2 : (0 : Int) ≤ (j : Int) := by omega
      rw [← ne_zero_dec] at S1 B2
      clear hc s1 s2
      generalize cs.getD j 0 = z at *
      generalize (keptTo cs j).getD j false = y at *
      go_wp2
      go_roundw
      case rel => exact ⟨j + 1, by omega, by go_num, S1, B2⟩
      case measure => simp [intOf]; omega
    · obtain rfl : j = n := by omega
      go_wp2
      go_ret
      exact ⟨_, rfl, by rw [← HA.out]; exact ho.out, hb.out⟩
end Go.Proofs.Ytdagkbgobnaijaa
namespace Go.Proofs.Ytdagkbgobnaijaa
open Go.RowKit Ph

end Go.Proofs.Ytdagkbgobnaijaa
namespace Go.Proofs.Ytdagkbgobnaijaa.Ph
def startH (h : H) : H := if good h = true then h else ⟨[], [], []⟩
theorem startH_no {h : H} (k : good h = false) : startH h = ⟨[], [], []⟩ := by unfold startH; rw [k]; rfl
theorem startH_yes {h : H} (k : good h = true) : startH h = h := by unfold startH; rw [if_pos k]
theorem startM_wt (h : H) : wtH (startH h) + (startR h).length ≤ 2000 := by
  have h1 := startR_len h
  cases hg : good h with
  | false => rw [startH_no hg]; have := nil_wt; omega
  | true => rw [startH_yes hg]; have := (good_wt (good_iff.1 hg)).1; omega
end Go.Proofs.Ytdagkbgobnaijaa.Ph
namespace Go.Proofs.Ytdagkbgobnaijaa
open Go.RowKit Ph

theorem endM_yes {w w' : World} {lo hi : Nat} {a b c d : Value} {h h' : H} {cs cs' : List Int} {ok : Bool} (hb : Below w.heap.size w w') (om : OwnM w' lo hi a b c d h' cs') (h1 : w.heap.size ≤ lo) (h2 : hi ≤ w'.heap.size) (e1 : h = h') (e2 : cs = cs') (e3 : ok = true) : EndM h cs ok w (.returned (.tuple #[mv a b c d, .bool true])) w' := by
  subst e1; subst e2; subst e3
  exact ⟨_, _, _, _, rfl, om.wide h1 h2, hb⟩
theorem endMI_yes {w w' : World} {lo hi : Nat} {a b c d : Value} {h h' : H} {cs cs' : List Int} {n n' : Int} {ok : Bool} (hb : Below w.heap.size w w') (om : OwnM w' lo hi a b c d h' cs') (h1 : w.heap.size ≤ lo) (h2 : hi ≤ w'.heap.size) (e1 : h = h') (e2 : cs = cs') (e0 : n = n') (e3 : ok = true) : EndMI h cs n ok w (.returned (.tuple #[mv a b c d, .int .i64 n', .bool true])) w' := by
  subst e1; subst e2; subst e3; subst e0
  exact ⟨_, _, _, _, rfl, om.wide h1 h2, hb⟩
theorem fillShape {v : Value} {n : Nat} (h : ∃ p q, v = .slice p n q) : ∃ p q, v = .slice p n q := h
set_option maxHeartbeats 3200000 in
set_option maxRecDepth 100000 in
theorem c_StartMarking (a b c : Value) (h : H) (w : World) (hA : HeapAt w a b c h) : Calls Try.prog 73 #[hv a b c] w (EndM (startH h) (startR h) (good h) w) := by
  have hb0 := (below1 w (.cells (c3 a b c) 32)).alloc (by simp) (.cells (m4 nilS nilS nilS nilS) 34)
  have A0 := Lib.hid (hA.below hb0)
  have HB := Lib.hid hb0
  have P0 := Lib.hid (show RowH _ w.heap.size a b c from (Row.new w 32 (c3 a b c)).alloc (.cells (m4 nilS nilS nilS nilS) 34))
  have R0 := Lib.hid (show RowM _ (w.heap.size + 1) nilS nilS nilS nilS from Row.new1 w (.cells (c3 a b c) 32) 34 (m4 nilS nilS nilS nilS))
  clear hA hb0
  have HC := Lib.hid (c_GoodHeap a b c h _ A0.out)
  generalize hg : good h = x at *
  have HX := Lib.hid hg
  clear hg
  have c0 := P0.out.c0
  have c1 := P0.out.c1
  have c2 := P0.out.c2
  cases x
  · have HE := Lib.hid (startR_no HX.out); have HE2 := Lib.hid (startH_no HX.out)
    go_enter Try.func73, Try.ntmps73
    go_wp2_with (first
      | (go_at_call 106; refine HC.out.mono ?_; rintro e w1 ⟨rfl, hb1⟩; have B1 := Lib.hid (bst HB.out hb1 HB.out.size); have A1 := Lib.hid (A0.out.below hb1); have P1 := Lib.hid (show RowH _ _ _ _ _ from Row.below P0.out hb1); have R1 := Lib.hid (show RowM _ _ _ _ _ _ from Row.below R0.out hb1); clear hb1)
      | (refine wl_storeM rfl _ _ rfl (w.heap.size + 1) nilS nilS nilS nilS _ _ _ _ R1.out rfl rfl rfl rfl rfl rfl ?_))
    refine bodyPost_ret (res_row_slot Try.results73 (Row.put R1.out (m4 nilS nilS nilS nilS)) rfl rfl Try.underlying34 rfl info_marking) rfl (endM_none (below_setRow B1.out (by omega) _) HE2.out HE.out rfl)
  · have HE := Lib.hid (startR_yes HX.out); have HE2 := Lib.hid (startH_yes HX.out)
    have G := Lib.hid (good_iff.1 HX.out)
    go_enter Try.func73, Try.ntmps73
    go_wp2_with (go_at_call 106; refine HC.out.mono ?_; rintro e w1 ⟨rfl, hb1⟩; have B1 := Lib.hid (bst HB.out hb1 HB.out.size); have A1 := Lib.hid (A0.out.below hb1); have P1 := Lib.hid (show RowH _ _ _ _ _ from Row.below P0.out hb1); have R1 := Lib.hid (show RowM _ _ _ _ _ _ from Row.below R0.out hb1); clear hb1)
    have A2 := Lib.hid (A1.out.below (below_drew (Below.refl w1.heap.size w1))); have B2 := Lib.hid (below_drew B1.out)
    have P2 := Lib.hid (show RowH w1.drew _ _ _ _ from P1.out); have R2 := Lib.hid (show RowM w1.drew _ _ _ _ _ from R1.out)
    clear A1 B1 P1 R1 c0 c1 c2
    refine wp_region_held_drew (S := (fun w' => w'.cell? ⟨w.heap.size, 0, none⟩ = some a ∧ w'.cell? ⟨w.heap.size, 1, none⟩ = some b ∧ w'.cell? ⟨w.heap.size, 2, none⟩ = some c)) (by kernel_rfl) (⟨P2.out.c0, P2.out.c1, P2.out.c2⟩) (fun hHeld => ?_)
    generalize w1.drew = x0 at *
    refine wpAnyH_take (i := 0) (v := ?va0x1) rfl (by kernel_rfl) (by kernel_rfl) (by kernel_rfl) (fun _ _ _ h => h) (Or.inl ⟨by rfl, ?hy0x1⟩) (by assumption) ?rest0x1
    case hy0x1 => (intro w hSw; (try dsimp only at hSw); go_simp; try with_reducible rfl)
    (try simp only [Act.put, List.getElem_toArray, List.getElem_cons_zero, List.setIfInBounds_toArray, List.set_cons_zero, List.set_cons_succ])
    refine wpAnyH_take (i := 2) (v := ?va2x2) rfl (by kernel_rfl) (by kernel_rfl) (by kernel_rfl) (fun _ _ _ h => h) (Or.inl ⟨by rfl, ?hy2x2⟩) (by assumption) ?rest2x2
    case hy2x2 => (intro w hSw; (try dsimp only at hSw); go_simp; try with_reducible rfl)
    (try simp only [Act.put, List.getElem_toArray, List.getElem_cons_zero, List.getElem_cons_succ, List.setIfInBounds_toArray, List.set_cons_zero, List.set_cons_succ])
    refine wpAnyH_ready (rs := [1]) (by kernel_rfl) (by simp) ?_
    refine AllReadyH.cons rfl (fun K hK => ?_) AllReadyH.nil
    go_simp
    refine (c_copyHeap a b c h _ A2.out G.out).mono ?_
    rintro e w2 ⟨a2, b2, c2, rfl, ho2, hb2⟩
    have B3 := Lib.hid (bst B2.out hb2 B2.out.size); have A3 := Lib.hid (A2.out.below hb2); have O3 := Lib.hid ho2
    have P3 := Lib.hid (show RowH _ _ _ _ _ from Row.below P2.out hb2); have R3 := Lib.hid (show RowM _ _ _ _ _ _ from Row.below R2.out hb2)
    have L3 : Hid (w.heap.size + 1 < x0.heap.size) := R2.out.lt
    have L3b : Hid (x0.heap.size ≤ w2.heap.size) := hb2.size
    clear ho2 hb2
    refine hK.out _ _ (⟨P3.out.c0, P3.out.c1, P3.out.c2⟩) (fun hHeld => ?_)
    clear hK K
    (try simp only [Act.put, List.getElem_toArray, List.getElem_cons_zero, List.getElem_cons_succ, List.setIfInBounds_toArray, List.set_cons_zero, List.set_cons_succ])
    refine wpAnyH_ready (rs := [3]) (by kernel_rfl) (by simp) ?_
    refine AllReadyH.cons rfl (fun K hK => ?_) AllReadyH.nil
    go_simp
    refine (c_coloursAtStart a b c h _ A3.out G.out).mono ?_
    rintro e w3 ⟨d3, rfl, ho3, hb3⟩
    have B4 := Lib.hid (bst B3.out hb3 B3.out.size)
    have P4 := Lib.hid (show RowH _ _ _ _ _ from Row.below P3.out hb3); have R4 := Lib.hid (show RowM _ _ _ _ _ _ from Row.below R3.out hb3)
    have M4 := Lib.hid (OwnM.hc (O3.out.below hb3) (OwnC.ofOwn ho3 hb3.size) L3b.out hb3.size)
    clear ho3 hb3
    obtain ⟨⟨pa, qa, e1⟩, ⟨pb, qb, e2⟩, ⟨pc, qc, e3⟩, ⟨pd, qd, e4⟩⟩ := M4.out.shapes
    subst e1 e2 e3 e4
    generalize h.f.length = nf at *
    generalize h.l.length = nl at *
    generalize h.r.length = nr at *
    generalize (startC h).length = nc at *
    refine hK.out _ _ (⟨P4.out.c0, P4.out.c1, P4.out.c2⟩) (fun hHeld => ?_)
    clear hK K
    (try simp only [Act.put, List.getElem_toArray, List.getElem_cons_zero, List.getElem_cons_succ, List.setIfInBounds_toArray, List.set_cons_zero, List.set_cons_succ])
    refine wpAnyH_take (i := 4) (v := ?va4x3) rfl (by kernel_rfl) (by kernel_rfl) (by kernel_rfl) (fun _ _ _ h => h) (Or.inl ⟨by rfl, ?hy4x3⟩) (by assumption) ?rest4x3
    case hy4x3 => (intro w hSw; (try dsimp only at hSw); go_simp; try with_reducible rfl)
    (try simp only [Act.put, List.getElem_toArray, List.getElem_cons_zero, List.getElem_cons_succ, List.setIfInBounds_toArray, List.set_cons_zero, List.set_cons_succ])
    have P5 := Lib.hid (show RowH _ _ _ _ _ from Row.putOther P4.out (m4 (.slice pa nf qa) (.slice pb nl qb) (.slice pc nr qc) (.slice pd nc qd)) (by omega : w.heap.size ≠ w.heap.size + 1))
    refine wpAnyH_ready (rs := [5]) (by kernel_rfl) (by simp) ?_
    refine AllReadyH.cons rfl (fun K hK => ?_) AllReadyH.nil
    refine wp_store_row 34 _ _ rfl (w.heap.size + 1) (m4 (.slice pa nf qa) (.slice pb nl qb) (.slice pc nr qc) (.slice pd nc qd)) rfl rfl 34 _ R4.out info_marking rfl (by simp [Value.oneCell']) ?_
    refine hK.out _ _ ⟨P5.out.c0, P5.out.c1, P5.out.c2⟩ (fun hHeld => ?_)
    clear hK K
    (try simp only [Act.put, List.getElem_toArray, List.getElem_cons_zero, List.getElem_cons_succ])
    refine wpAnyH_take (i := 6) (v := ?va6x4) rfl (by kernel_rfl) (by kernel_rfl) (by kernel_rfl) (fun _ _ _ h => h) (Or.inl ⟨by rfl, ?hy6x4⟩) (by assumption) ?rest6x4
    case hy6x4 => (intro w hSw; (try dsimp only at hSw); go_simp; try with_reducible rfl)
    (try simp only [Act.put, List.getElem_toArray, List.getElem_cons_zero, List.getElem_cons_succ, List.setIfInBounds_toArray, List.set_cons_zero, List.set_cons_succ])
    refine wpAnyH_done (by kernel_rfl) ?_ _
    clear hHeld
    go_wp2_with fail
    refine bodyPost_ret (res_row_slot Try.results73 (Row.put R4.out (m4 (.slice pa nf qa) (.slice pb nl qb) (.slice pc nr qc) (.slice pd nc qd))) rfl rfl Try.underlying34 rfl info_marking) rfl (endM_yes (below_setRow B4.out (by omega) _) (M4.out.whole (w.heap.size + 1) L3.out _) (by have := L3.out; omega) (by rw [size_setRow]; exact Nat.le_refl _) HE2.out HE.out rfl)
set_option maxHeartbeats 3200000 in
set_option maxRecDepth 100000 in
theorem s_StartMarking (a b c : Value) (h : H) (w : World) (hA : HeapAt w a b c h) : Calls Try.prog 68 #[hv a b c] w (EndM (startH h) (startR h) (good h) w) := by
  have hb0 := (below1 w (.cells (c3 a b c) 32)).alloc (by simp) (.cells (m4 nilS nilS nilS nilS) 34)
  have A0 := Lib.hid (hA.below hb0)
  have HB := Lib.hid hb0
  have P0 := Lib.hid (show RowH _ w.heap.size a b c from (Row.new w 32 (c3 a b c)).alloc (.cells (m4 nilS nilS nilS nilS) 34))
  have R0 := Lib.hid (show RowM _ (w.heap.size + 1) nilS nilS nilS nilS from Row.new1 w (.cells (c3 a b c) 32) 34 (m4 nilS nilS nilS nilS))
  clear hA hb0
  have HC := Lib.hid (s_GoodHeap a b c h _ A0.out)
  generalize hg : good h = x at *
  have HX := Lib.hid hg
  clear hg
  have c0 := P0.out.c0
  have c1 := P0.out.c1
  have c2 := P0.out.c2
  cases x
  · have HE := Lib.hid (startR_no HX.out); have HE2 := Lib.hid (startH_no HX.out)
    go_enter Try.func68, Try.ntmps68
    go_wp2_with (first
      | (go_at_call 103; refine HC.out.mono ?_; rintro e w1 ⟨rfl, hb1⟩; have B1 := Lib.hid (bst HB.out hb1 HB.out.size); have A1 := Lib.hid (A0.out.below hb1); have P1 := Lib.hid (show RowH _ _ _ _ _ from Row.below P0.out hb1); have R1 := Lib.hid (show RowM _ _ _ _ _ _ from Row.below R0.out hb1); clear hb1)
      | (refine wl_storeM rfl _ _ rfl (w.heap.size + 1) nilS nilS nilS nilS _ _ _ _ R1.out rfl rfl rfl rfl rfl rfl ?_))
    refine bodyPost_ret (res_row_slot Try.results68 (Row.put R1.out (m4 nilS nilS nilS nilS)) rfl rfl Try.underlying34 rfl info_marking) rfl (endM_none (below_setRow B1.out (by omega) _) HE2.out HE.out rfl)
  · have HE := Lib.hid (startR_yes HX.out); have HE2 := Lib.hid (startH_yes HX.out)
    have G := Lib.hid (good_iff.1 HX.out)
    go_enter Try.func68, Try.ntmps68
    go_wp2_with (go_at_call 103; refine HC.out.mono ?_; rintro e w1 ⟨rfl, hb1⟩; have B1 := Lib.hid (bst HB.out hb1 HB.out.size); have A1 := Lib.hid (A0.out.below hb1); have P1 := Lib.hid (show RowH _ _ _ _ _ from Row.below P0.out hb1); have R1 := Lib.hid (show RowM _ _ _ _ _ _ from Row.below R0.out hb1); clear hb1)
    have A2 := Lib.hid (A1.out.below (below_drew (Below.refl w1.heap.size w1))); have B2 := Lib.hid (below_drew B1.out)
    have P2 := Lib.hid (show RowH w1.drew _ _ _ _ from P1.out); have R2 := Lib.hid (show RowM w1.drew _ _ _ _ _ from R1.out)
    clear A1 B1 P1 R1 c0 c1 c2
    refine wp_region_held_drew (S := (fun w' => w'.cell? ⟨w.heap.size, 0, none⟩ = some a ∧ w'.cell? ⟨w.heap.size, 1, none⟩ = some b ∧ w'.cell? ⟨w.heap.size, 2, none⟩ = some c)) (by kernel_rfl) (⟨P2.out.c0, P2.out.c1, P2.out.c2⟩) (fun hHeld => ?_)
    generalize w1.drew = x0 at *
    refine wpAnyH_take (i := 0) (v := ?va0x5) rfl (by kernel_rfl) (by kernel_rfl) (by kernel_rfl) (fun _ _ _ h => h) (Or.inl ⟨by rfl, ?hy0x5⟩) (by assumption) ?rest0x5
    case hy0x5 => (intro w hSw; (try dsimp only at hSw); go_simp; try with_reducible rfl)
    (try simp only [Act.put, List.getElem_toArray, List.getElem_cons_zero, List.setIfInBounds_toArray, List.set_cons_zero, List.set_cons_succ])
    refine wpAnyH_take (i := 2) (v := ?va2x6) rfl (by kernel_rfl) (by kernel_rfl) (by kernel_rfl) (fun _ _ _ h => h) (Or.inl ⟨by rfl, ?hy2x6⟩) (by assumption) ?rest2x6
    case hy2x6 => (intro w hSw; (try dsimp only at hSw); go_simp; try with_reducible rfl)
    (try simp only [Act.put, List.getElem_toArray, List.getElem_cons_zero, List.getElem_cons_succ, List.setIfInBounds_toArray, List.set_cons_zero, List.set_cons_succ])
    refine wpAnyH_ready (rs := [1]) (by kernel_rfl) (by simp) ?_
    refine AllReadyH.cons rfl (fun K hK => ?_) AllReadyH.nil
    go_simp
    refine (s_l5Own a b c h _ A2.out G.out).mono ?_
    rintro e w2 ⟨a2, b2, c2, rfl, ho2, hb2⟩
    have B3 := Lib.hid (bst B2.out hb2 B2.out.size); have A3 := Lib.hid (A2.out.below hb2); have O3 := Lib.hid ho2
    have P3 := Lib.hid (show RowH _ _ _ _ _ from Row.below P2.out hb2); have R3 := Lib.hid (show RowM _ _ _ _ _ _ from Row.below R2.out hb2)
    have L3 : Hid (w.heap.size + 1 < x0.heap.size) := R2.out.lt
    have L3b : Hid (x0.heap.size ≤ w2.heap.size) := hb2.size
    clear ho2 hb2
    refine hK.out _ _ (⟨P3.out.c0, P3.out.c1, P3.out.c2⟩) (fun hHeld => ?_)
    clear hK K
    (try simp only [Act.put, List.getElem_toArray, List.getElem_cons_zero, List.getElem_cons_succ, List.setIfInBounds_toArray, List.set_cons_zero, List.set_cons_succ])
    refine wpAnyH_ready (rs := [3]) (by kernel_rfl) (by simp) ?_
    refine AllReadyH.cons rfl (fun K hK => ?_) AllReadyH.nil
    go_simp
    refine (s_l6Start a b c h _ A3.out G.out).mono ?_
    rintro e w3 ⟨d3, rfl, ho3, hb3⟩
    have B4 := Lib.hid (bst B3.out hb3 B3.out.size)
    have P4 := Lib.hid (show RowH _ _ _ _ _ from Row.below P3.out hb3); have R4 := Lib.hid (show RowM _ _ _ _ _ _ from Row.below R3.out hb3)
    have M4 := Lib.hid (OwnM.hc (O3.out.below hb3) (OwnC.ofOwn ho3 hb3.size) L3b.out hb3.size)
    clear ho3 hb3
    obtain ⟨⟨pa, qa, e1⟩, ⟨pb, qb, e2⟩, ⟨pc, qc, e3⟩, ⟨pd, qd, e4⟩⟩ := M4.out.shapes
    subst e1 e2 e3 e4
    generalize h.f.length = nf at *
    generalize h.l.length = nl at *
    generalize h.r.length = nr at *
    generalize (startC h).length = nc at *
    refine hK.out _ _ (⟨P4.out.c0, P4.out.c1, P4.out.c2⟩) (fun hHeld => ?_)
    clear hK K
    (try simp only [Act.put, List.getElem_toArray, List.getElem_cons_zero, List.getElem_cons_succ, List.setIfInBounds_toArray, List.set_cons_zero, List.set_cons_succ])
    refine wpAnyH_take (i := 4) (v := ?va4x7) rfl (by kernel_rfl) (by kernel_rfl) (by kernel_rfl) (fun _ _ _ h => h) (Or.inl ⟨by rfl, ?hy4x7⟩) (by assumption) ?rest4x7
    case hy4x7 => (intro w hSw; (try dsimp only at hSw); go_simp; try with_reducible rfl)
    (try simp only [Act.put, List.getElem_toArray, List.getElem_cons_zero, List.getElem_cons_succ, List.setIfInBounds_toArray, List.set_cons_zero, List.set_cons_succ])
    have P5 := Lib.hid (show RowH _ _ _ _ _ from Row.putOther P4.out (m4 (.slice pa nf qa) (.slice pb nl qb) (.slice pc nr qc) (.slice pd nc qd)) (by omega : w.heap.size ≠ w.heap.size + 1))
    refine wpAnyH_ready (rs := [5]) (by kernel_rfl) (by simp) ?_
    refine AllReadyH.cons rfl (fun K hK => ?_) AllReadyH.nil
    refine wp_store_row 34 _ _ rfl (w.heap.size + 1) (m4 (.slice pa nf qa) (.slice pb nl qb) (.slice pc nr qc) (.slice pd nc qd)) rfl rfl 34 _ R4.out info_marking rfl (by simp [Value.oneCell']) ?_
    refine hK.out _ _ ⟨P5.out.c0, P5.out.c1, P5.out.c2⟩ (fun hHeld => ?_)
    clear hK K
    (try simp only [Act.put, List.getElem_toArray, List.getElem_cons_zero, List.getElem_cons_succ])
    refine wpAnyH_take (i := 6) (v := ?va6x8) rfl (by kernel_rfl) (by kernel_rfl) (by kernel_rfl) (fun _ _ _ h => h) (Or.inl ⟨by rfl, ?hy6x8⟩) (by assumption) ?rest6x8
    case hy6x8 => (intro w hSw; (try dsimp only at hSw); go_simp; try with_reducible rfl)
    (try simp only [Act.put, List.getElem_toArray, List.getElem_cons_zero, List.getElem_cons_succ, List.setIfInBounds_toArray, List.set_cons_zero, List.set_cons_succ])
    refine wpAnyH_done (by kernel_rfl) ?_ _
    clear hHeld
    go_wp2_with fail
    refine bodyPost_ret (res_row_slot Try.results68 (Row.put R4.out (m4 (.slice pa nf qa) (.slice pb nl qb) (.slice pc nr qc) (.slice pd nc qd))) rfl rfl Try.underlying34 rfl info_marking) rfl (endM_yes (below_setRow B4.out (by omega) _) (M4.out.whole (w.heap.size + 1) L3.out _) (by have := L3.out; omega) (by rw [size_setRow]; exact Nat.le_refl _) HE2.out HE.out rfl)
end Go.Proofs.Ytdagkbgobnaijaa
