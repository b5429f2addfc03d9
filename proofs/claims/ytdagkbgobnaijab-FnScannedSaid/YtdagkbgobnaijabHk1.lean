/- What is kept of a heap that is the caller's own: the project's and the reference's loop. -/
import Derived.Test.YtdagkbgobnaijabHw8
import Derived.Test.YtdagkbgobnaijabHr3
namespace Go.Proofs.Ytdagkbgobnaijab.Ph
def keepStep (ks : List Bool) (p : H × Nat) (j : Nat) : H × Nat := if (p.1.l.getD j false && !ks.getD j false) = true then (⟨p.1.f.set j [], p.1.l.set j false, p.1.r⟩, p.2 + 1) else p
def keepTo (h : H) (ks : List Bool) : Nat → H × Nat
  | 0 => (h, 0)
  | j + 1 => keepStep ks (keepTo h ks j) j
theorem keepTo_len (h : H) (ks : List Bool) (j : Nat) : (keepTo h ks j).1.f.length = h.f.length ∧ (keepTo h ks j).1.l.length = h.l.length ∧ (keepTo h ks j).1.r = h.r ∧ (keepTo h ks j).2 ≤ j := by
  induction j with
  | zero => exact ⟨rfl, rfl, rfl, Nat.le_refl _⟩
  | succ j ih =>
    simp only [keepTo, keepStep]
    split
    · simp only [List.length_set]; exact ⟨ih.1, ih.2.1, ih.2.2.1, by omega⟩
    · exact ⟨ih.1, ih.2.1, ih.2.2.1, by omega⟩
theorem keepTo_yes {h : H} {ks : List Bool} {j : Nat} (h1 : (keepTo h ks j).1.l.getD j false = true) (h2 : ks.getD j false = false) : keepTo h ks (j + 1) = (⟨(keepTo h ks j).1.f.set j [], (keepTo h ks j).1.l.set j false, (keepTo h ks j).1.r⟩, (keepTo h ks j).2 + 1) := by
  simp only [keepTo, keepStep]; rw [h1, h2]; rfl
theorem keepTo_no {h : H} {ks : List Bool} {j : Nat} (h1 : (keepTo h ks j).1.l.getD j false = false ∨ ks.getD j false = true) : keepTo h ks (j + 1) = keepTo h ks j := by
  simp only [keepTo, keepStep]
  rcases h1 with h1 | h1
  · rw [h1]; rfl
  · rw [h1]; simp
end Go.Proofs.Ytdagkbgobnaijab.Ph
namespace Go.Proofs.Ytdagkbgobnaijab
open Go.RowKit Ph

theorem putNil {w : World} {lo hi : Nat} {a b c : Value} {h : H} (k : OwnH w lo hi a b c h) {j : Nat} (hj : j < h.f.length) : ∃ ga ca x, a = .slice (some ⟨ga, 0, none⟩) h.f.length ca ∧ w.cell? ⟨ga, j, none⟩ = some x ∧ w.frozen? ⟨ga, j, none⟩ = false ∧ OwnH (w.setCell ⟨ga, j, none⟩ (.slice none 0 0)) lo hi a b c ⟨h.f.set j [], h.l, h.r⟩ ∧ Chg lo hi w (w.setCell ⟨ga, j, none⟩ (.slice none 0 0)) := by
  obtain ⟨us, hf⟩ := k
  rcases hf.shape with ⟨_, h0⟩ | ⟨ga, ca, ha⟩
  · rw [h0] at hj; simp at hj
  obtain ⟨c1, f1⟩ := hf.cell ha hj
  obtain ⟨s1, s2⟩ := hf.putRow hj (Own.nil w lo) (Nat.le_refl _) (fun g hg => by cases hg) ha
  exact ⟨ga, ca, _, ha, c1, f1, ⟨_, s1⟩, Chg.of_grown s2 fun g hg => by
    cases hg
    have := Fam.blk hf (k := 0) (g := ga) (by omega) (by show a.ownBlock = _; rw [ha]; rfl)
    exact ⟨this.1, this.2.1⟩⟩
theorem putLiveB {w : World} {lo hi : Nat} {a b c : Value} {h : H} (k : OwnH w lo hi a b c h) {j : Nat} (hj : j < h.l.length) (x : Bool) : ∃ gb cb, b = .slice (some ⟨gb, 0, none⟩) h.l.length cb ∧ w.cell? ⟨gb, j, none⟩ = some (.bool (h.l.getD j false)) ∧ w.frozen? ⟨gb, j, none⟩ = false ∧ OwnH (w.setCell ⟨gb, j, none⟩ (.bool x)) lo hi a b c ⟨h.f, h.l.set j x, h.r⟩ ∧ Chg lo hi w (w.setCell ⟨gb, j, none⟩ (.bool x)) := by
  obtain ⟨us, hf⟩ := k
  have hl := hf.live
  rcases hl.shape with ⟨_, h0⟩ | ⟨gb, cb, hb⟩
  · rw [h0] at hj; simp at hj
  have hl2 := hl
  rw [hb] at hl2
  obtain ⟨s1, s2, s3, s4⟩ := hl2.stored rfl hj x
  exact ⟨gb, cb, hb, s3, s4, ⟨us, hf.setLive (by rw [hb]; exact s2) (by rw [hb]; exact s1)⟩, Chg.of_grown s2 fun g hg => by
    cases hg
    have := Fam.blk hf (k := 1) (g := gb) (by omega) (by show b.ownBlock = _; rw [hb]; rfl)
    exact ⟨this.1, this.2.1⟩⟩
theorem OwnBs.chg {w w' : World} {B lo hi : Nat} {v : Value} {bs : List Bool} (h : OwnBs w B v bs) (hc : Chg lo hi w w') (hd : hi ≤ B) : OwnBs w' B v bs := owns_block h fun g hg => by have := owns_lt h hg; exact hc.block g this.2 (.inr (by omega))
end Go.Proofs.Ytdagkbgobnaijab
