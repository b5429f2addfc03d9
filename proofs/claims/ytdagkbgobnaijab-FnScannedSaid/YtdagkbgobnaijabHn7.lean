/- The reference's NewThing. -/
import Derived.Test.YtdagkbgobnaijabHn6
import Derived.Test.YtdagkbgobnaijabHs6
import Derived.Test.YtdagkbgobnaijabHp1
namespace Go.Proofs.Ytdagkbgobnaijab.Ph
theorem set_last {α : Type} (l : List α) (x y : α) : (l ++ [x]).set l.length y = l ++ [y] := by
  rw [List.set_append_right _ _ (Nat.le_refl _), Nat.sub_self, List.set_cons_zero]
theorem newS_yes {h : H} {m : Nat} (g : Good h) (hok : newOk h (m : Int) = true) : newS h m = ((newP h (m : Int)).1, (((newP h (m : Int)).2 : Nat) : Int)) := by
  rw [newP_yes hok, Int.toNat_natCast]
  have hle := place_le h.l
  have hll := g.ll
  unfold newOk at hok
  simp only [Bool.and_eq_true, decide_eq_true_eq] at hok
  have h12 := hok.2
  unfold newS grown1
  by_cases hp : placeOf h.l < h.l.length
  · rw [if_pos hp, if_pos hp]
  · have hpe : placeOf h.l = h.l.length := by omega
    rw [if_neg hp, if_neg hp, if_neg (by omega)]
    unfold put1
    simp only
    have e1 : (h.f ++ [[]]).set (placeOf h.l) (List.replicate m (-1)) = h.f ++ [List.replicate m (-1)] := by rw [hpe, hll]; exact set_last _ _ _
    have e2 : (h.l ++ [false]).set (placeOf h.l) true = h.l ++ [true] := by rw [hpe]; exact set_last _ _ _
    rw [e1, e2, hpe, hll]
theorem newS_no {h : H} {m : Nat} (g : Good h) (hm : m ≤ 3) (hok : newOk h (m : Int) = false) : (newS h m).2 = -1 := by
  have hle := place_le h.l
  have hll := g.ll
  have hn := g.n
  have h12 : ¬ placeOf h.l < 12 := fun q => by
    have : newOk h (m : Int) = true := by
      unfold newOk
      rw [good_iff.2 g, decide_eq_true (show (0 : Int) ≤ (m : Int) by omega), decide_eq_true (show (m : Int) ≤ 3 by omega), decide_eq_true q]; rfl
    rw [hok] at this; cases this
  unfold newS
  rw [if_neg (by omega), if_pos (by omega)]
theorem newP_wt (h : H) (m : Int) : wtH (newP h m).1 ≤ 1000 := by
  cases hok : newOk h m with
  | false => rw [newP_no hok]; exact nil_wt
  | true =>
    have hok' := hok
    unfold newOk at hok'
    simp only [Bool.and_eq_true, decide_eq_true_eq] at hok'
    have g := good_iff.1 hok'.1.1.1
    have h12 := hok'.2
    have hm := hok'.1.2
    have hm0 := hok'.1.1.2
    rw [newP_yes hok]
    have hll := g.ll
    have hn := g.n
    have hgl : (grown1 h).f.length ≤ 12 ∧ (grown1 h).l.length ≤ 12 ∧ (grown1 h).r.length ≤ 4 ∧ ∀ i, ((grown1 h).f.getD i []).length ≤ 3 := by
      have hrow : ∀ i, (h.f.getD i []).length ≤ 3 := fun i => by
        by_cases hi : i < h.f.length
        · exact (g.row i hi).1
        · simp [List.getD, List.getElem?_eq_none (Nat.le_of_not_lt hi)]
      unfold grown1
      split
      · exact ⟨hn, by omega, g.rn, hrow⟩
      · next q =>
        have := place_le h.l
        refine ⟨by simp; omega, by simp; omega, g.rn, fun i => ?_⟩
        by_cases hi : i < h.f.length
        · have := hrow i
          simpa [List.getD, List.getElem?_append_left hi] using this
        · by_cases hi2 : i = h.f.length
          · subst hi2; simp [List.getD]
          · have : (h.f ++ [([] : List Int)])[i]? = none := List.getElem?_eq_none (by simp; omega)
            simp [List.getD, this]
    refine small_wt (h := put1 (grown1 h) (placeOf h.l) m.toNat) (by unfold put1; simp only [List.length_set]; exact hgl.1) (fun i hi => ?_) (by unfold put1; simp only [List.length_set]; exact hgl.2.1) hgl.2.2.1
    unfold put1
    simp only
    by_cases hi : placeOf h.l < (grown1 h).f.length
    · rw [getD_setL hi]
      split
      · simp; omega
      · exact hgl.2.2.2 i
    · rw [List.set_eq_of_length_le (by omega)]; exact hgl.2.2.2 i
end Go.Proofs.Ytdagkbgobnaijab.Ph
namespace Go.Proofs.Ytdagkbgobnaijab
open Go.RowKit Ph

end Go.Proofs.Ytdagkbgobnaijab
