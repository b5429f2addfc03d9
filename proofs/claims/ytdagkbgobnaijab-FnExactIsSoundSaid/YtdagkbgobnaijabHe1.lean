/- How the exact laws over heaps end. -/
import Derived.Test.YtdagkbgobnaijabHl5
namespace Go.Proofs.Ytdagkbgobnaijab
open Go.RowKit Ph

theorem OwnH.ofBools {w : World} {B : Nat} {v : Value} {bs : List Bool} (ho : OwnBs w B v bs) (hs : B ≤ w.heap.size) : OwnH w B w.heap.size (.slice none 0 0) v (.slice none 0 0) ⟨[], bs, []⟩ := (OwnH.nil w B B).addLive ho (Nat.le_refl _) hs
theorem OwnH.ofInts {w w0 : World} {v : Value} {zs : List Int} (ho : Own w w0.heap.size v zs) (hb : Below w0.heap.size w0 w) : OwnH w w0.heap.size w.heap.size (.slice none 0 0) (.slice none 0 0) v ⟨[], [], zs⟩ := (OwnH.nil w _ w0.heap.size).addRoots ho (Nat.le_refl _) hb.size
/-- A list of bools of its own, and a bool. -/
def EndB (bs : List Bool) (ok : Bool) (w : World) (e : Ending) (w' : World) : Prop := ∃ v, e = .returned (.tuple #[v, .bool ok]) ∧ OwnH w' w.heap.size w'.heap.size (.slice none 0 0) v (.slice none 0 0) ⟨[], bs, []⟩ ∧ Below w.heap.size w w'
/-- A heap of its own, and a bool. -/
def EndH (h : H) (ok : Bool) (w : World) (e : Ending) (w' : World) : Prop := ∃ a b c, e = .returned (.tuple #[hv a b c, .bool ok]) ∧ OwnH w' w.heap.size w'.heap.size a b c h ∧ Below w.heap.size w w'
def EndHI (h : H) (n : Int) (ok : Bool) (w : World) (e : Ending) (w' : World) : Prop := ∃ a b c, e = .returned (.tuple #[hv a b c, .int .i64 n, .bool ok]) ∧ OwnH w' w.heap.size w'.heap.size a b c h ∧ Below w.heap.size w w'
theorem c_markRoots (lo hi : Nat) (a b c : Value) (h : H) (k : Int) (w : World) (hown : OwnH w lo hi a b c h) (h0 : 0 ≤ k) (hm : k + h.r.length ≤ 9223372036854775806) :
    Calls Try.prog 68 #[c, .int .i64 k] w fun e w' => e = .returned (.int .i64 (k + h.r.length)) ∧ OwnH w' lo hi a b c ⟨h.f, h.l, upFrom k h.r.length⟩ ∧ Chg lo hi w w' := by
  obtain ⟨us, hf⟩ := hown
  refine (c_markIntS c h.r lo k w hf.roots h0 hm).mono ?_
  rintro e w' ⟨he, ho, hg⟩
  exact ⟨he, ⟨us, hf.setRoots hg ho⟩, Chg.of_grown hg fun g' hg' => by have := Fam.blk hf (k := 2) (g := g') (by omega) hg'; exact ⟨this.1, this.2.1⟩⟩
end Go.Proofs.Ytdagkbgobnaijab
