/- Heaps marked and held by the laws. -/
import Derived.Test.YtdagkbgobnaijabHl4
namespace Go.Proofs.Ytdagkbgobnaijab
open Go.RowKit Ph

theorem Row.chg {w w' : World} {lo hi g : Nat} {T : TypeId} {cs : Array Value} (h : Row w g T cs) (hc : Chg lo hi w w') (hd : g < lo ∨ hi ≤ g) : Row w' g T cs := (hc.block g h.lt hd).trans h
theorem below_chg {B lo hi : Nat} {w w1 w2 : World} (h : Below B w w1) (k : Chg lo hi w1 w2) (hB : B ≤ lo) (hs : B ≤ w1.heap.size) : Below B w w2 :=
  ⟨k.os.trans h.os, k.tape.trans h.tape, k.output.trans h.output, Nat.le_trans h.size k.size, fun i hi => (k.block i (by omega) (.inl (by omega))).trans (h.block i hi)⟩
/-- What a mark is. -/
def mk3 (z : Int) : Bool := z % 3 == 0
def upB (k : Int) (n : Nat) : List Bool := (List.range n).map (fun i : Nat => mk3 (k + (i : Int)))
theorem upB_length (k : Int) (n : Nat) : (upB k n).length = n := by simp [upB]
theorem upB_getD (k : Int) {n i : Nat} (h : i < n) : (upB k n).getD i false = mk3 (k + i) := by simp [upB, List.getD, h]
def markB (k : Int) (zs : List Bool) (j : Nat) : List Bool := upB k j ++ zs.drop j
theorem markB_length (k : Int) (zs : List Bool) {j : Nat} (h : j ≤ zs.length) : (markB k zs j).length = zs.length := by simp [markB, upB_length]; omega
theorem markB_zero (k : Int) (zs : List Bool) : markB k zs 0 = zs := by simp [markB, upB]
theorem markB_all (k : Int) (zs : List Bool) : markB k zs zs.length = upB k zs.length := by simp [markB]
theorem markB_set (k : Int) (zs : List Bool) {j : Nat} (h : j < zs.length) : (markB k zs j).set j (mk3 (k + j)) = markB k zs (j + 1) := by
  unfold markB
  have e : zs.drop j = zs[j] :: zs.drop (j + 1) := (List.drop_eq_getElem_cons h)
  rw [e, List.set_append_right _ _ (by rw [upB_length]; omega), upB_length, Nat.sub_self, List.set_cons_zero]
  simp [upB, List.range_succ]
/-- Rows of which the first j have been marked. -/
def markF (k : Int) (fs : List (List Int)) (j : Nat) : List (List Int) := (List.range fs.length).map fun i => if i < j then upFrom (k + sumL fs i) (fs.getD i []).length else fs.getD i []
theorem markF_length (k : Int) (fs : List (List Int)) (j : Nat) : (markF k fs j).length = fs.length := by simp [markF]
theorem markF_getD (k : Int) (fs : List (List Int)) (j : Nat) {i : Nat} (h : i < fs.length) : (markF k fs j).getD i [] = if i < j then upFrom (k + sumL fs i) (fs.getD i []).length else fs.getD i [] := by
  unfold markF
  rw [List.getD, List.getElem?_map, List.getElem?_range h]
  rfl
theorem ext_getD {xs ys : List (List Int)} (hl : xs.length = ys.length) (h : ∀ i, i < xs.length → xs.getD i [] = ys.getD i []) : xs = ys := by
  apply List.ext_getElem hl
  intro i h1 h2
  have := h i h1
  simpa [List.getD, List.getElem?_eq_getElem h1, List.getElem?_eq_getElem h2] using this
theorem markF_zero (k : Int) (fs : List (List Int)) : markF k fs 0 = fs := ext_getD (markF_length k fs 0) fun i hi => by rw [markF_getD k fs 0 (by rw [markF_length] at hi; exact hi), if_neg (by omega)]
theorem markF_set (k : Int) (fs : List (List Int)) {j : Nat} (h : j < fs.length) : (markF k fs j).set j (upFrom (k + sumL fs j) (fs.getD j []).length) = markF k fs (j + 1) := by
  refine ext_getD (by rw [List.length_set, markF_length, markF_length]) fun i hi => ?_
  rw [List.length_set, markF_length] at hi
  rw [getD_setL (by rw [markF_length]; exact h), markF_getD k fs (j + 1) hi, markF_getD k fs j hi]
  by_cases e : i = j
  · subst e; rw [if_pos rfl, if_pos (by omega)]
  · rw [if_neg e]
    by_cases e2 : i < j
    · rw [if_pos e2, if_pos (by omega)]
    · rw [if_neg e2, if_neg (by omega)]
def szM (h : H) : Nat := sumL h.f h.f.length + h.l.length + h.r.length
def markH (k : Int) (h : H) : H := ⟨markF k h.f h.f.length, upB (k + sumL h.f h.f.length) h.l.length, upFrom (k + sumL h.f h.f.length + h.l.length) h.r.length⟩
theorem FamH.shapeN {w : World} {lo hi : Nat} {a b c : Value} {us : Nat → Value} {h : H} (k : FamH w lo hi a b c us h) {n : Nat} (hn : h.f.length = n) : (a = .slice none 0 0 ∧ n = 0) ∨ ∃ g cap, a = .slice (some ⟨g, 0, none⟩) n cap := by
  rcases k.shape with ⟨h1, h2⟩ | ⟨g, cap, h1⟩
  · exact .inl ⟨h1, by rw [← hn, h2]; rfl⟩
  · exact .inr ⟨g, cap, by rw [h1, hn]⟩
end Go.Proofs.Ytdagkbgobnaijab
