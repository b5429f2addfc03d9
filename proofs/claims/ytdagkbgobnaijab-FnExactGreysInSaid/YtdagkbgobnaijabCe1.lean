/- How the exact laws over colours end. -/
import Derived.Test.YtdagkbgobnaijabHe1
import Derived.Test.YtdagkbgobnaijabPc
namespace Go.Proofs.Ytdagkbgobnaijab.Ph
theorem ofR_len (cs : List Int) (c : Int) : (ofR cs c).length ≤ 1000 := by
  unfold ofR
  split
  · next h => have := (colsB_iff.1 h).1; have := ofTo_len cs c cs.length; unfold ofC; omega
  · simp
theorem shadeR_len (cs : List Int) (k : Int) : (shadeR cs k).length ≤ 1000 := by
  unfold shadeR
  split
  · next h =>
    unfold shadeOk at h
    have := (colsB_iff.1 (Bool.and_eq_true _ _ ▸ h).1).1
    rw [shade_len]; omega
  · simp
theorem startR_len (h : H) : (startR h).length ≤ 1000 := by
  unfold startR
  split
  · next hg => have := (good_iff.1 hg).n; unfold startC; rw [shades_len, List.length_replicate]; omega
  · simp
theorem scanR_len (h : H) (cs : List Int) (k : Int) : (scanR h cs k).length ≤ 1000 := by
  unfold scanR
  split
  · next hg =>
    unfold scanOk at hg
    simp only [Bool.and_eq_true] at hg
    have := bothB_iff.1 hg.1.1
    have := this.1.n
    rw [scan_len]; omega
  · simp
end Go.Proofs.Ytdagkbgobnaijab.Ph
namespace Go.Proofs.Ytdagkbgobnaijab
open Go.RowKit Ph
/-- A list of ints of its own, and a bool. -/
def EndI (zs : List Int) (ok : Bool) (w : World) (e : Ending) (w' : World) : Prop := ∃ v, e = .returned (.tuple #[v, .bool ok]) ∧ OwnH w' w.heap.size w'.heap.size (.slice none 0 0) (.slice none 0 0) v ⟨[], [], zs⟩ ∧ Below w.heap.size w w'
def EndII (zs : List Int) (n : Int) (ok : Bool) (w : World) (e : Ending) (w' : World) : Prop := ∃ v, e = .returned (.tuple #[v, .int .i64 n, .bool ok]) ∧ OwnH w' w.heap.size w'.heap.size (.slice none 0 0) (.slice none 0 0) v ⟨[], [], zs⟩ ∧ Below w.heap.size w w'
theorem endI_no {w w' : World} {zs : List Int} {ok : Bool} (hb : Below w.heap.size w w') (h1 : zs = []) (h2 : ok = false) : EndI zs ok w (.returned (.tuple #[.slice none 0 0, .bool false])) w' := by
  subst h1; subst h2
  exact ⟨_, rfl, OwnH.nil w' _ _, hb⟩
theorem endI_yes {w w' : World} {zs zs' : List Int} {ok : Bool} {v : Value} {B : Nat} (hb : Below w.heap.size w w') (ho : Own w' B v zs') (hB : w.heap.size ≤ B) (h1 : zs = zs') (h2 : ok = true) : EndI zs ok w (.returned (.tuple #[v, .bool true])) w' := by
  subst h1; subst h2
  exact ⟨_, rfl, OwnH.ofInts (ho.mono hB) hb, hb⟩
theorem endII_no {w w' : World} {zs : List Int} {n : Int} {ok : Bool} (hb : Below w.heap.size w w') (h1 : zs = []) (h0 : n = 0) (h2 : ok = false) : EndII zs n ok w (.returned (.tuple #[.slice none 0 0, .int .i64 0, .bool false])) w' := by
  subst h1; subst h2; subst h0
  exact ⟨_, rfl, OwnH.nil w' _ _, hb⟩
theorem endII_yes {w w' : World} {zs zs' : List Int} {n n' : Int} {ok : Bool} {v : Value} {B : Nat} (hb : Below w.heap.size w w') (ho : Own w' B v zs') (hB : w.heap.size ≤ B) (h1 : zs = zs') (h0 : n = n') (h2 : ok = true) : EndII zs n ok w (.returned (.tuple #[v, .int .i64 n', .bool true])) w' := by
  subst h1; subst h2; subst h0
  exact ⟨_, rfl, OwnH.ofInts (ho.mono hB) hb, hb⟩
end Go.Proofs.Ytdagkbgobnaijab
