/- Marking: what stands while Grey objects are scanned, and how it ends. Mathematics alone. -/
import Derived.Test.YtdagkbgobnaijabPc
namespace Go.Proofs.Ytdagkbgobnaijab.Ph

theorem shade_get (cs : List Int) (z : Int) (i : Nat) : (shade cs z).getD i 0 = if cs.getD i 0 = 0 ∧ i < cs.length ∧ z = i then 1 else cs.getD i 0 := by
  unfold shade
  by_cases h : 0 ≤ z ∧ cs.getD z.toNat 0 = 0
  · rw [if_pos h]
    by_cases e : z.toNat < cs.length
    · rw [getD_setI e]
      by_cases ei : i = z.toNat
      · subst ei
        rw [if_pos rfl, if_pos ⟨h.2, e, by omega⟩]
      · rw [if_neg ei, if_neg (fun k => ei (by omega))]
    · rw [set_outI e, if_neg (fun k => e (by omega))]
  · rw [if_neg h, if_neg]
    rintro ⟨h1, _, rfl⟩
    exact h ⟨by omega, by simpa using h1⟩
theorem shades_get (i : Nat) (zs : List Int) : ∀ cs : List Int, (shades cs zs).getD i 0 = if cs.getD i 0 = 0 ∧ i < cs.length ∧ (i : Int) ∈ zs then 1 else cs.getD i 0 := by
  induction zs with
  | nil => exact fun cs => by rw [shades_nil, if_neg (by simp)]
  | cons z zs ih =>
    intro cs
    rw [shades_cons, ih, shade_len]
    by_cases h1 : cs.getD i 0 = 0 ∧ i < cs.length
    · by_cases h2 : z = (i : Int)
      · have e : (shade cs z).getD i 0 = 1 := by rw [shade_get, if_pos ⟨h1.1, h1.2, h2⟩]
        rw [e, if_neg (by omega), if_pos ⟨h1.1, h1.2, by rw [h2]; exact List.mem_cons_self⟩]
      · have e : (shade cs z).getD i 0 = cs.getD i 0 := by rw [shade_get, if_neg (fun k => h2 k.2.2)]
        rw [e]
        by_cases h3 : (i : Int) ∈ zs
        · rw [if_pos ⟨h1.1, h1.2, h3⟩, if_pos ⟨h1.1, h1.2, List.mem_cons_of_mem _ h3⟩]
        · rw [if_neg (fun k => h3 k.2.2), if_neg]
          rintro ⟨_, _, k⟩
          rcases List.mem_cons.1 k with k | k
          · exact h2 k.symm
          · exact h3 k
    · have e : (shade cs z).getD i 0 = cs.getD i 0 := by rw [shade_get, if_neg (fun k => h1 ⟨k.1, k.2.1⟩)]
      rw [e, if_neg (fun k => h1 ⟨k.1, k.2.1⟩), if_neg (fun k => h1 ⟨k.1, k.2.1⟩)]
/-- How many objects below n are Black. -/
def blk (cs : List Int) (n : Nat) : Nat := (List.range n).countP fun i => decide (cs.getD i 0 = 2)
theorem blk_succ (cs : List Int) (n : Nat) : blk cs (n + 1) = blk cs n + if cs.getD n 0 = 2 then 1 else 0 := by
  unfold blk
  rw [List.range_succ, List.countP_append]
  rw [List.countP_singleton]
  by_cases h : cs.getD n 0 = 2
  · rw [if_pos h, if_pos (by simpa using h)]
  · rw [if_neg h, if_neg (by simpa using h)]
theorem blk_le (cs : List Int) (n : Nat) : blk cs n ≤ n := by
  induction n with
  | zero => exact Nat.le_refl _
  | succ n ih => rw [blk_succ]; split <;> omega
theorem blk_one {cs cs' : List Int} {k : Nat} (hk : cs.getD k 0 ≠ 2) (hk' : cs'.getD k 0 = 2) (ho : ∀ i, i ≠ k → (cs'.getD i 0 = 2 ↔ cs.getD i 0 = 2)) (n : Nat) : blk cs' n = blk cs n + if k < n then 1 else 0 := by
  induction n with
  | zero => rfl
  | succ n ih =>
    rw [blk_succ, blk_succ, ih]
    by_cases e : n = k
    · subst e
      rw [if_neg (Nat.lt_irrefl _), if_pos hk', if_neg hk, if_pos (Nat.lt_succ_self _)]
    · have := ho n e
      by_cases h2 : cs.getD n 0 = 2
      · rw [if_pos (this.2 h2), if_pos h2]
        by_cases h3 : k < n
        · rw [if_pos h3, if_pos (by omega)]
        · rw [if_neg h3, if_neg (by omega)]
      · rw [if_neg (fun h => h2 (this.1 h)), if_neg h2]
        by_cases h3 : k < n
        · rw [if_pos h3, if_pos (by omega)]
        · rw [if_neg h3, if_neg (by omega)]
structure Mk (h : H) (cs : List Int) (n : Nat) : Prop where
  col : Col cs
  len : cs.length = h.f.length
  rch : ∀ i, cs.getD i 0 ≠ 0 → Reach h.f h.r i
  root : ∀ i : Nat, (i : Int) ∈ h.r → cs.getD i 0 ≠ 0
  snd : ∀ i, cs.getD i 0 = 2 → ∀ j : Nat, (j : Int) ∈ h.f.getD i [] → cs.getD j 0 ≠ 0
  cnt : n = blk cs h.f.length
theorem Good.rootIn {h : H} (g : Good h) {i : Nat} (hi : (i : Int) ∈ h.r) : i < h.f.length := by
  rcases refs_bound g g.rr _ hi with e | ⟨_, e, _⟩ <;> omega
theorem Good.fieldIn {h : H} (g : Good h) {k i : Nat} (hi : (i : Int) ∈ h.f.getD k []) : i < h.f.length := by
  rcases g.field hi with e | ⟨_, e, _⟩ <;> omega
theorem rep_get (n i : Nat) : (List.replicate n (0 : Int)).getD i 0 = 0 := by
  by_cases h : i < n
  · simp [List.getD, h]
  · exact getD_outI (by simpa using h)
theorem Mk.start {h : H} (g : Good h) : Mk h (startC h) 0 := by
  have get : ∀ i, (startC h).getD i 0 = if (i < h.f.length ∧ (i : Int) ∈ h.r) then 1 else 0 := fun i => by
    unfold startC
    rw [shades_get, rep_get, List.length_replicate]
    simp only [true_and]
  refine ⟨(Col.rep _).shades, by unfold startC; rw [shades_len, List.length_replicate], fun i hi => ?_, fun i hi => ?_, fun i hi => ?_, ?_⟩
  · rw [get] at hi
    by_cases e : i < h.f.length ∧ (i : Int) ∈ h.r
    · exact .root e.2
    · rw [if_neg e] at hi; exact absurd rfl hi
  · rw [get, if_pos ⟨g.rootIn hi, hi⟩]; omega
  · rw [get] at hi; split at hi <;> omega
  · have : ∀ n, blk (startC h) n = 0 := fun n => by
      induction n with
      | zero => rfl
      | succ n ih => rw [blk_succ, ih, if_neg]; rw [get]; split <;> omega
    rw [this]
theorem Mk.step {h : H} {cs : List Int} {n k : Nat} (g : Good h) (m : Mk h cs n) (hk : k < cs.length) (h1 : cs.getD k 0 = 1) : Mk h (scan cs (h.f.getD k []) k) (n + 1) := by
  have get : ∀ i, (scan cs (h.f.getD k []) k).getD i 0 = if i = k then 2 else if cs.getD i 0 = 0 ∧ i < cs.length ∧ (i : Int) ∈ h.f.getD k [] then 1 else cs.getD i 0 := fun i => by
    unfold scan
    rw [shades_get, getD_setI hk, List.length_set]
    by_cases e : i = k
    · rw [if_pos e, if_pos e, if_neg (by omega)]
    · rw [if_neg e, if_neg e]
  have up : ∀ i, cs.getD i 0 ≠ 0 → (scan cs (h.f.getD k []) k).getD i 0 ≠ 0 := fun i hi => by
    rw [get]
    by_cases e : i = k
    · rw [if_pos e]; omega
    · rw [if_neg e, if_neg (fun q => hi q.1)]; exact hi
  have hr : Reach h.f h.r k := m.rch k (by omega)
  have two : ∀ i, i ≠ k → ((scan cs (h.f.getD k []) k).getD i 0 = 2 ↔ cs.getD i 0 = 2) := fun i e => by
    rw [get, if_neg e]
    by_cases q : cs.getD i 0 = 0 ∧ i < cs.length ∧ (i : Int) ∈ h.f.getD k []
    · rw [if_pos q]; constructor <;> intro hh <;> omega
    · rw [if_neg q]
  refine ⟨m.col.scan _ _, by rw [scan_len, m.len], fun i hi => ?_, fun i hi => up i (m.root i hi), fun i hi j hj => ?_, ?_⟩
  · rw [get] at hi
    by_cases e : i = k
    · rw [e]; exact hr
    · rw [if_neg e] at hi
      by_cases q : cs.getD i 0 = 0 ∧ i < cs.length ∧ (i : Int) ∈ h.f.getD k []
      · exact .step hr q.2.2
      · rw [if_neg q] at hi; exact m.rch i hi
  · by_cases e : i = k
    · subst e
      rw [get]
      by_cases e2 : j = i
      · rw [if_pos e2]; omega
      · rw [if_neg e2]
        by_cases q : cs.getD j 0 = 0
        · rw [if_pos ⟨q, by rw [m.len]; exact g.fieldIn hj, hj⟩]; omega
        · rw [if_neg (fun k => q k.1)]; exact q
    · exact up j (m.snd i ((two i e).1 hi) j hj)
  · rw [blk_one (cs := cs) (k := k) (by omega) (by rw [get, if_pos rfl]) two, m.cnt, if_pos (by rw [← m.len]; exact hk)]
/-- The colours when the marking has ended: what is reached is Black. -/
noncomputable def endC (h : H) : List Int := (reachL h.f h.r).map fun b => if b = true then 2 else 0
noncomputable def endN (h : H) : Nat := blk (endC h) h.f.length
theorem endC_len (h : H) : (endC h).length = h.f.length := by unfold endC; rw [List.length_map, reachL_length]
theorem endC_get (h : H) (i : Nat) : (endC h).getD i 0 = if (reachL h.f h.r).getD i false = true then 2 else 0 := by
  unfold endC
  by_cases e : i < (reachL h.f h.r).length
  · simp [List.getD, List.getElem?_eq_getElem e]
  · simp [List.getD, List.getElem?_eq_none (Nat.le_of_not_lt e)]
theorem Mk.done {h : H} {cs : List Int} {n : Nat} (m : Mk h cs n) (hg : ofC cs 1 = []) : cs = endC h ∧ n = endN h := by
  have no1 : ∀ i, cs.getD i 0 ≠ 1 := fun i hi => by
    have hl : i < cs.length := by
      by_cases e : i < cs.length
      · exact e
      · rw [getD_outI e] at hi; omega
    have : (i : Int) ∈ ofC cs 1 := mem_ofC.2 ⟨i, hl, hi, rfl⟩
    rw [hg] at this; simp at this
  have bw : ∀ i, cs.getD i 0 ≠ 0 → cs.getD i 0 = 2 := fun i hi => by have := m.col i; have := no1 i; omega
  have up : ∀ i, Reach h.f h.r i → cs.getD i 0 ≠ 0 := fun i hi => by
    induction hi with
    | root hz => exact m.root _ hz
    | step _ hk ih => exact m.snd _ (bw _ ih) _ hk
  have e : cs = endC h := by
    apply List.ext_getElem?
    intro i
    by_cases hi : i < cs.length
    · have e1 : cs[i]? = some (cs.getD i 0) := by simp [List.getD, List.getElem?_eq_getElem hi]
      have hi' : i < (endC h).length := by rw [endC_len, ← m.len]; exact hi
      have e2 : (endC h)[i]? = some ((endC h).getD i 0) := by simp [List.getD, List.getElem?_eq_getElem hi']
      rw [e1, e2, endC_get]
      congr 1
      by_cases r : Reach h.f h.r i
      · rw [if_pos (reachL_getD.2 ⟨by rw [← m.len]; exact hi, r⟩)]; exact bw i (up i r)
      · rw [if_neg (fun q => r (reachL_getD.1 q).2)]
        by_cases q : cs.getD i 0 = 0
        · exact q
        · exact absurd (m.rch i q) r
    · rw [List.getElem?_eq_none (by omega), List.getElem?_eq_none (by rw [endC_len, ← m.len]; omega)]
  exact ⟨e, by rw [m.cnt, e]; rfl⟩
theorem Mk.le {h : H} {cs : List Int} {n : Nat} (m : Mk h cs n) : n ≤ h.f.length := by rw [m.cnt]; exact blk_le _ _
def choB (zs : List Int) : Bool := decide (zs.length ≤ 40) && zs.all (inB 0 100)
def markOk (h : H) (zs : List Int) : Bool := good h && choB zs
noncomputable def markR (h : H) (zs : List Int) : List Int × Nat := if markOk h zs = true then (endC h, endN h) else ([], 0)
theorem markR_len (h : H) (zs : List Int) : (markR h zs).1.length ≤ 1000 := by
  unfold markR
  split
  · next k =>
    unfold markOk at k
    rw [Bool.and_eq_true] at k
    have := (good_iff.1 k.1).n
    simp only [endC_len]; omega
  · simp
end Go.Proofs.Ytdagkbgobnaijab.Ph
