/- What the laws of chapter 2 draw: a pair of bitmaps. -/
import Derived.Test.YtcelebblcjhpaaaDoorDr5
import Derived.Test.YtcelebblcjhpaaaDoorBi6
namespace Go.Proofs.YtcelebblcjhpaaaDoor
open Go.RowKit Pb

theorem res_row_row {P : Program} {fn : Func} {p p' : Tmp} {ty ty' : TypeId} (h : fn.results = #[.cell p ty, .cell p' ty']) {tmps : Array Value} {w : World} {g g' : Nat} {t t' : TypeId} {cs cs' : Array Value} {d d' : TypeDesc} (hg : Row w g t cs) (hg' : Row w g' t' cs')
    (hp : tmps.getD p undef = .pointer (some ⟨g, 0, none⟩)) (hp' : tmps.getD p' undef = .pointer (some ⟨g', 0, none⟩)) (hu : P.underlying ty = some d) (hd : (match d with | .struct _ | .array _ _ => true | _ => false) = true) (hi : (P.info? ty).map (·.size) = some cs.size)
    (hu' : P.underlying ty' = some d') (hd' : (match d' with | .struct _ | .array _ _ => true | _ => false) = true) (hi' : (P.info? ty').map (·.size) = some cs'.size) :
    (results fn tmps).run P w = .ok (.tuple #[.agg cs, .agg cs']) w := by
  have e1 : tmps[p]?.getD undef = .pointer (some ⟨g, 0, none⟩) := by simpa using hp
  have e2 : tmps[p']?.getD undef = .pointer (some ⟨g', 0, none⟩) := by simpa using hp'
  simp [results, h, e1, e2, asAddr, run_loadVar_row w g t ty cs (0, 0) d hg hu hd hi, run_loadVar_row w g' t' ty' cs' (0, 0) d' hg' hu' hd' hi']

/-- Two drawn bitmaps. -/
def PairOut (w : World) (e : Ending) (w' : World) : Prop := ∃ (la : Int) (va : Value) (za : List Int) (lb : Int) (vb : Value) (zb : List Int), za.length ≤ 6 ∧ zb.length ≤ 6 ∧ (0 ≤ la ∧ la ≤ 96) ∧ (0 ≤ lb ∧ lb ≤ 96) ∧ e = .returned (.tuple #[bm la va, bm lb vb]) ∧ Own w' w.heap.size va za ∧ Own w' w.heap.size vb zb ∧ Below w.heap.size w w'
def drawnAt2 (w : World) (v : Value) : World := ((w.alloc (.cells (cb 0 (.slice none 0 0)) 25)).alloc (.cells (cb 0 (.slice none 0 0)) 25)).alloc (.cells #[v, .int .i64 0, .int .u64 0] 92)
set_option maxHeartbeats 1600000 in
theorem c_sameBits (la lb : Int) (va vb : Value) (za zb : List Int) (w : World) (hA : IntsAt w va za) (hB : IntsAt w vb zb) (hm : za.length ≤ 9223372036854775806) :
    Calls Tryd.prog 56 #[bm la va, bm lb vb] w fun e w' => e = .returned (.bool (decide (la = lb ∧ za = zb))) ∧ Below w.heap.size w w' := by
  have b2 : Below w.heap.size w ((w.alloc (.cells (cb la va) 25)).alloc (.cells (cb lb vb) 25)) := ((Below.refl w.heap.size w).alloc (Nat.le_refl _) _).alloc (by simp) _
  have r0 : RowB ((w.alloc (.cells (cb la va) 25)).alloc (.cells (cb lb vb) 25)) w.heap.size la va := (Row.new w 25 (cb la va)).alloc _
  have r1 : RowB ((w.alloc (.cells (cb la va) 25)).alloc (.cells (cb lb vb) 25)) (w.heap.size + 1) lb vb := Row.new1 w _ 25 (cb lb vb)
  have A2 := Lib.hid (hA.below b2); have B2 := Lib.hid (hB.below b2); have W2 := Lib.hid b2; have M2 := Lib.hid hm
  obtain ⟨aa, ca, ea, _⟩ := hA
  obtain ⟨ab, c4, eb, _⟩ := hB
  subst ea; subst eb
  clear b2 hm
  have q0 := r0.c0; have q1 := r0.c1; have q2 := r1.c0; have q3 := r1.c1
  clear r0 r1
  by_cases he : la = lb
  · subst he
    go_enter Tryd.func56, Tryd.ntmps56
    go_wp2_with fail
    refine (c_sameInts _ _ za zb _ A2.out B2.out M2.out).mono ?_
    rintro e w3 ⟨rfl, n, rfl⟩
    go_wp2
    go_ret
    exact ⟨by simp, below_drewN W2.out n⟩
  · go_enter Tryd.func56, Tryd.ntmps56
    go_wp2
    go_ret
    exact ⟨by simp [he], by exact W2.out⟩
end Go.Proofs.YtcelebblcjhpaaaDoor
