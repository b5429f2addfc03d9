/- Colours of objects: what is valid, shading, scanning. Mathematics alone. -/
import Derived.Test.YtdagkbgobnaijabHs4
namespace Go.Proofs.Ytdagkbgobnaijab.Ph

/-- Every colour is White (0), Grey (1) or Black (2). -/
def Col (cs : List Int) : Prop := ∀ i, 0 ≤ cs.getD i 0 ∧ cs.getD i 0 ≤ 2
def colsB (cs : List Int) : Bool := decide (cs.length ≤ 12) && cs.all (inB 0 2)
theorem getD_memI {zs : List Int} {i : Nat} (h : i < zs.length) : zs.getD i 0 ∈ zs := by
  have e : zs.getD i 0 = zs[i] := by simp [List.getD, List.getElem?_eq_getElem h]
  rw [e]; exact List.getElem_mem h
theorem getD_outI {zs : List Int} {i : Nat} (h : ¬ i < zs.length) : zs.getD i 0 = 0 := by simp [List.getD, List.getElem?_eq_none (Nat.le_of_not_lt h)]
theorem colsB_iff {cs : List Int} : colsB cs = true ↔ cs.length ≤ 12 ∧ Col cs := by
  unfold colsB
  rw [Bool.and_eq_true, decide_eq_true_eq, List.all_eq_true]
  refine and_congr_right fun _ => ⟨fun h i => ?_, fun h z hz => ?_⟩
  · by_cases e : i < cs.length
    · have := h _ (getD_memI e)
      simp only [inB, Bool.and_eq_true, decide_eq_true_eq] at this
      exact this
    · rw [getD_outI e]; omega
  · obtain ⟨i, hi, rfl⟩ := List.getElem_of_mem hz
    have := h i
    have e : cs.getD i 0 = cs[i] := by simp [List.getD, List.getElem?_eq_getElem hi]
    rw [e] at this
    simp only [inB, Bool.and_eq_true, decide_eq_true_eq]
    exact this
theorem getD_setI {zs : List Int} {i j : Nat} {x : Int} (hi : i < zs.length) : (zs.set i x).getD j 0 = if j = i then x else zs.getD j 0 := by
  by_cases e : j = i
  · subst e; simp [List.getD, hi]
  · rw [if_neg e]
    simp only [List.getD]
    rw [List.getElem?_set_ne (Ne.symm e)]
theorem set_outI {zs : List Int} {i : Nat} {x : Int} (hi : ¬ i < zs.length) : zs.set i x = zs := List.set_eq_of_length_le (by omega)
theorem set_getDI {zs : List Int} {i : Nat} : zs.set i (zs.getD i 0) = zs := by
  by_cases hi : i < zs.length
  · have e : zs.getD i 0 = zs[i] := by simp [List.getD, List.getElem?_eq_getElem hi]
    rw [e]; exact List.set_getElem_self hi
  · exact set_outI hi
theorem Col.set {cs : List Int} (h : Col cs) (k : Nat) {x : Int} (h0 : 0 ≤ x) (h2 : x ≤ 2) : Col (cs.set k x) := by
  intro i
  by_cases hk : k < cs.length
  · rw [getD_setI hk]
    by_cases e : i = k
    · rw [if_pos e]; exact ⟨h0, h2⟩
    · rw [if_neg e]; exact h i
  · rw [set_outI hk]; exact h i

/-- The object z shaded. -/
def shade (cs : List Int) (z : Int) : List Int := if 0 ≤ z ∧ cs.getD z.toNat 0 = 0 then cs.set z.toNat 1 else cs
theorem shade_len (cs : List Int) (z : Int) : (shade cs z).length = cs.length := by unfold shade; split <;> simp
theorem shade_neg {cs : List Int} {z : Int} (h : z < 0) : shade cs z = cs := by unfold shade; rw [if_neg (by omega)]
theorem Col.shade {cs : List Int} (h : Col cs) (z : Int) : Col (shade cs z) := by
  unfold Ph.shade
  split
  · exact h.set _ (by omega) (by omega)
  · exact h
theorem shade_nat (cs : List Int) (k : Nat) : shade cs (k : Int) = if cs.getD k 0 = 0 then cs.set k 1 else cs := by
  unfold shade
  simp
theorem shade_max {cs : List Int} {k : Nat} (hc : Col cs) : cs.set k (max (cs.getD k 0) 1) = shade cs (k : Int) := by
  rw [shade_nat]
  by_cases e : cs.getD k 0 = 0
  · rw [if_pos e, e]; rfl
  · rw [if_neg e]
    have := hc k
    rw [Int.max_eq_left (by omega)]
    exact set_getDI
/-- The objects zs shaded, one after another. -/
def shades (cs zs : List Int) : List Int := zs.foldl shade cs
theorem shades_nil (cs : List Int) : shades cs [] = cs := rfl
theorem shades_cons (cs zs : List Int) (z : Int) : shades cs (z :: zs) = shades (shade cs z) zs := rfl
theorem shades_take_succ {cs zs : List Int} {k : Nat} (h : k < zs.length) : shades cs (zs.take (k + 1)) = shade (shades cs (zs.take k)) (zs.getD k 0) := by
  have e : zs.getD k 0 = zs[k] := by simp [List.getD, List.getElem?_eq_getElem h]
  unfold shades
  rw [List.take_succ_eq_append_getElem h, List.foldl_append, e]; rfl
theorem shades_len (zs : List Int) : ∀ cs : List Int, (shades cs zs).length = cs.length := by
  induction zs with
  | nil => exact fun cs => rfl
  | cons z zs ih => exact fun cs => by rw [shades_cons, ih, shade_len]
theorem Col.shades {zs : List Int} : ∀ {cs : List Int}, Col cs → Col (shades cs zs) := by
  induction zs with
  | nil => exact fun h => h
  | cons z zs ih => exact fun h => ih (h.shade z)
theorem Col.rep (n : Nat) : Col (List.replicate n 0) := by
  intro i
  by_cases h : i < n
  · have : (List.replicate n (0 : Int)).getD i 0 = 0 := by simp [List.getD, h]
    rw [this]; omega
  · rw [getD_outI (by simpa using h)]; omega
/-- A Grey object scanned: it is Black, and what its fields name is shaded. -/
def scan (cs zs : List Int) (k : Nat) : List Int := shades (cs.set k 2) zs
theorem shade_set {cs : List Int} {k : Nat} (h0 : cs.getD k 0 ≠ 0) (z : Int) : (shade cs z).set k 2 = shade (cs.set k 2) z := by
  have hk : k < cs.length := by
    by_cases e : k < cs.length
    · exact e
    · exact absurd (getD_outI e) h0
  unfold shade
  by_cases hz : 0 ≤ z
  · by_cases e : z.toNat = k
    · rw [e, getD_setI hk, if_pos rfl, if_neg (fun h => h0 h.2), if_neg (by omega)]
    · rw [getD_setI hk, if_neg e]
      by_cases hc : cs.getD z.toNat 0 = 0
      · rw [if_pos ⟨hz, hc⟩, if_pos ⟨hz, hc⟩, List.set_comm _ _ (Ne.symm e)]
      · rw [if_neg (fun h => hc h.2), if_neg (fun h => hc h.2)]
  · rw [if_neg (fun h => hz h.1), if_neg (fun h => hz h.1)]
theorem shade_keeps {cs : List Int} {k : Nat} (h0 : cs.getD k 0 ≠ 0) (z : Int) : (shade cs z).getD k 0 = cs.getD k 0 := by
  unfold shade
  split
  · next h =>
    by_cases e : z.toNat < cs.length
    · rw [getD_setI e, if_neg (fun hh => h0 (by rw [hh]; exact h.2))]
    · rw [set_outI e]
  · rfl
theorem shades_keeps {k : Nat} (zs : List Int) : ∀ {cs : List Int}, cs.getD k 0 ≠ 0 → (shades cs zs).getD k 0 = cs.getD k 0 := by
  induction zs with
  | nil => exact fun _ => rfl
  | cons z zs ih => exact fun h => by rw [shades_cons, ih (by rw [shade_keeps h]; exact h), shade_keeps h]
theorem scan_eq {k : Nat} (zs : List Int) : ∀ {cs : List Int}, cs.getD k 0 ≠ 0 → (shades cs zs).set k 2 = scan cs zs k := by
  induction zs with
  | nil => exact fun _ => rfl
  | cons z zs ih =>
    intro cs h
    rw [shades_cons, ih (by rw [shade_keeps h]; exact h)]
    unfold scan
    rw [shades_cons, shade_set h]
theorem scan_len (cs zs : List Int) (k : Nat) : (scan cs zs k).length = cs.length := by unfold scan; rw [shades_len]; simp
theorem Col.scan {cs : List Int} (h : Col cs) (zs : List Int) (k : Nat) : Col (scan cs zs k) := (h.set k (by omega) (by omega)).shades

/-- The objects of the colour c, in order. -/
def ofTo (cs : List Int) (c : Int) (n : Nat) : List Int := ((List.range n).filter fun i => decide (cs.getD i 0 = c)).map fun i : Nat => (i : Int)
def ofC (cs : List Int) (c : Int) : List Int := ofTo cs c cs.length
theorem ofTo_zero (cs : List Int) (c : Int) : ofTo cs c 0 = [] := rfl
theorem ofTo_succ_yes {cs : List Int} {c : Int} {n : Nat} (h : cs.getD n 0 = c) : ofTo cs c (n + 1) = ofTo cs c n ++ [(n : Int)] := by
  unfold ofTo
  rw [List.range_succ, List.filter_append, List.map_append, List.filter_cons_of_pos (by simpa using h)]; rfl
theorem ofTo_succ_no {cs : List Int} {c : Int} {n : Nat} (h : ¬ cs.getD n 0 = c) : ofTo cs c (n + 1) = ofTo cs c n := by
  unfold ofTo
  rw [List.range_succ, List.filter_append, List.map_append, List.filter_cons_of_neg (by simpa using h)]; simp
theorem ofTo_len (cs : List Int) (c : Int) (n : Nat) : (ofTo cs c n).length ≤ n := by
  unfold ofTo
  rw [List.length_map]
  refine Nat.le_trans (List.length_filter_le _ _) ?_
  simp
theorem mem_ofC {cs : List Int} {c z : Int} : z ∈ ofC cs c ↔ ∃ i, i < cs.length ∧ cs.getD i 0 = c ∧ z = i := by
  unfold ofC ofTo
  simp only [List.mem_map, List.mem_filter, List.mem_range, decide_eq_true_eq]
  constructor
  · rintro ⟨i, ⟨h1, h2⟩, rfl⟩; exact ⟨i, h1, h2, rfl⟩
  · rintro ⟨i, h1, h2, rfl⟩; exact ⟨i, ⟨h1, h2⟩, rfl⟩
/-- No field of a Black object names a White one. -/
def soundB (h : H) (cs : List Int) : Bool := (List.range h.f.length).all fun k => (h.f.getD k []).all fun x => !(decide (0 ≤ x) && decide (cs.getD k 0 = 2) && decide (cs.getD x.toNat 0 = 0))
def hasB (cs : List Int) (k : Int) : Bool := decide (0 ≤ k) && decide (k < cs.length)
def bothB (h : H) (cs : List Int) : Bool := good h && decide (cs.length = h.l.length) && colsB cs
theorem bothB_iff {h : H} {cs : List Int} : bothB h cs = true ↔ Good h ∧ cs.length = h.f.length ∧ Col cs := by
  unfold bothB
  rw [Bool.and_eq_true, Bool.and_eq_true, decide_eq_true_eq, good_iff, colsB_iff]
  constructor
  · rintro ⟨⟨g, e⟩, _, c⟩; exact ⟨g, by rw [e, g.ll], c⟩
  · rintro ⟨g, e, c⟩; exact ⟨⟨g, by rw [e, g.ll]⟩, by rw [e]; exact g.n, c⟩
theorem bothB_eq (h : H) (cs : List Int) : bothB h cs = (good h && colsB cs && decide (cs.length = h.f.length)) := by
  rw [Bool.eq_iff_iff, bothB_iff, Bool.and_eq_true, Bool.and_eq_true, decide_eq_true_eq, good_iff, colsB_iff]
  constructor
  · rintro ⟨g, e, c⟩; exact ⟨⟨g, by rw [e]; exact g.n, c⟩, e⟩
  · rintro ⟨⟨g, _, c⟩, e⟩; exact ⟨g, e, c⟩
def shadeOk (cs : List Int) (k : Int) : Bool := colsB cs && hasB cs k
def shadeR (cs : List Int) (k : Int) : List Int := if shadeOk cs k = true then shade cs k else []
def scanOk (h : H) (cs : List Int) (k : Int) : Bool := bothB h cs && hasB cs k && decide (cs.getD k.toNat 0 = 1)
def scanR (h : H) (cs : List Int) (k : Int) : List Int := if scanOk h cs k = true then scan cs (h.f.getD k.toNat []) k.toNat else []
def startC (h : H) : List Int := shades (List.replicate h.f.length 0) h.r
def startR (h : H) : List Int := if good h = true then startC h else []
def ofR (cs : List Int) (c : Int) : List Int := if colsB cs = true then ofC cs c else []
def soundR (h : H) (cs : List Int) : Bool := bothB h cs && soundB h cs
end Go.Proofs.Ytdagkbgobnaijab.Ph
