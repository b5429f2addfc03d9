/- What the project says is reached. -/
import Derived.Test.YtdagkbgobnaijabHr1
import Derived.Laws.EntriesVeiled
namespace Go.Proofs.Ytdagkbgobnaijab
open Go.RowKit Ph

theorem rep_bools (n : Nat) : (madeCells (Value.bool false).cells (n * 1)).toList = (List.replicate n false).map Value.bool := by
  rw [Nat.mul_one, show (Value.bool false).cells = #[.bool false] from rfl, toList_madeCells_one, List.map_replicate]
theorem visit_start {w w1 : World} {a c : Value} {la : Option Addr} {n lc : Nat} (hown : w1.ownsRow w.heap.size 4 1 (.slice (some ⟨w.heap.size + 1, 0, none⟩) n n) n ((List.replicate n false).map Value.bool)) (hgr : (w.alloc (.cells (c3 a (.slice la n lc) c) 27)).grownBy w1 none) :
    Vst ((w1.alloc (.cells #[.slice (some ⟨w.heap.size + 1, 0, none⟩) n n] 24)).alloc (.cells #[.func (.func 138) #[] #[.pointer (some ⟨w1.heap.size, 0, none⟩), .pointer (some ⟨w1.heap.size + 1, 0, none⟩), .pointer (some ⟨w.heap.size, 0, none⟩)]] 132)) (w.heap.size + 1) w1.heap.size (w1.heap.size + 1) w.heap.size n w.heap.size a (.slice la n lc) c (List.replicate n false) ∧
    Below w.heap.size w ((w1.alloc (.cells #[.slice (some ⟨w.heap.size + 1, 0, none⟩) n n] 24)).alloc (.cells #[.func (.func 138) #[] #[.pointer (some ⟨w1.heap.size, 0, none⟩), .pointer (some ⟨w1.heap.size + 1, 0, none⟩), .pointer (some ⟨w.heap.size, 0, none⟩)]] 132)) ∧ w.heap.size + 1 < w1.heap.size := by
  have hb0 := below1 w (.cells (c3 a (.slice la n lc) c) 27)
  have R0 := (show RowH _ _ a (.slice la n lc) c from Row.new w 27 (c3 a (.slice la n lc) c))
  have hlt1 : w.heap.size + 1 < w1.heap.size := (owns_lt hown rfl).2
  have rh := ((Row.grown R0 hgr).alloc (.cells #[.slice (some ⟨w.heap.size + 1, 0, none⟩) n n] 24)).alloc (.cells #[.func (.func 138) #[] #[.pointer (some ⟨w1.heap.size, 0, none⟩), .pointer (some ⟨w1.heap.size + 1, 0, none⟩), .pointer (some ⟨w.heap.size, 0, none⟩)]] 132)
  have bw := (below1 w1 (.cells #[.slice (some ⟨w.heap.size + 1, 0, none⟩) n n] 24)).alloc (by simp) (.cells #[.func (.func 138) #[] #[.pointer (some ⟨w1.heap.size, 0, none⟩), .pointer (some ⟨w1.heap.size + 1, 0, none⟩), .pointer (some ⟨w.heap.size, 0, none⟩)]] 132)
  have o1 : OwnBs w1 w.heap.size (.slice (some ⟨w.heap.size + 1, 0, none⟩) n n) (List.replicate n false) := by unfold OwnBs; rw [List.length_replicate]; exact hown
  have bb := hb0.grown hgr hb0.size (fun k hk => by cases hk)
  exact ⟨⟨OwnBs.below o1 bw, (Row.new w1 24 #[.slice (some ⟨w.heap.size + 1, 0, none⟩) n n]).alloc _, Row.new1 w1 _ 132 _, rh⟩, bst bb bw (by omega), hlt1⟩
set_option maxRecDepth 100000 in
set_option maxHeartbeats 3200000 in
theorem c_reachedOver (a b c v : Value) (h : H) (zs : List Int) (w : World) (hA : HeapAt w a b c h) (hG : Ph.Good h) (hz : IntsAt w v zs) (hzl : zs.length ≤ 12) (hzr : ∀ z ∈ zs, inR h.f.length z) :
    Calls Try.prog 101 #[hv a b c, v] w fun e w' => ∃ v', e = .returned v' ∧ OwnBs w' w.heap.size v' (reachL h.f zs) ∧ Below w.heap.size w w' := by
  obtain ⟨i0, hi, hz0, hz1, hz2⟩ := info_parts info_boolz
  have hrow : ∀ i, i < h.f.length → ∀ z ∈ h.f.getD i [], inR h.f.length z := fun i _ z hz => (hG.field hz).imp id (fun h => ⟨h.1, h.2.1⟩)
  have hrl : ∀ i, i < h.f.length → (h.f.getD i []).length ≤ 3 := fun i hi => (hG.row i hi).1
  have hn1 := hG.n
  have hll := hG.ll
  obtain ⟨la, lc, rfl⟩ := hA.l.shape
  rw [hll]
  have HF := Lib.hid hA.f; have HZ := Lib.hid hz; have HR := Lib.hid hrow; have HRL := Lib.hid hrl; have HZR := Lib.hid hzr
  clear hA hG hz hrow hrl hzr hll
  generalize hn : h.f.length = n at *
  have HN := Lib.hid hn; clear hn
  have hb0 := Lib.hid (below1 w (.cells (c3 a (.slice la n lc) c) 27))
  have R0 := Lib.hid (show RowH _ _ a (.slice la n lc) c from Row.new w 27 (c3 a (.slice la n lc) c))
  go_enter Try.func101, Try.ntmps101
  go_wp2_with (first
    | (at_make; refine wpList_make_full _ rfl _ _ 24 rfl w.heap.size 4 i0 (.bool false) 1 Try.underlying24 hi hz0 hz1 .i64 .i64 _ _ n rfl rfl rfl rfl (by rw [hz2]; omega) (by unfold maxLen; omega) (by simp) ?_; intro w1 hown hgr
       rw [rep_bools] at hown
       have hsz0 : (w.alloc (.cells (c3 a (.slice la n lc) c) 27)).heap.size = w.heap.size + 1 := by simp
       rw [hsz0] at hown
       obtain ⟨vv, b2, lt1⟩ := visit_start hown hgr
       have VV := Lib.hid vv; have B2 := Lib.hid b2; have LT1 := Lib.hid lt1
       clear hown hgr hsz0 vv b2 lt1))
  refine (c_visit w (w.heap.size + 1) w1.heap.size (w1.heap.size + 1) w.heap.size n w.heap.size a (.slice la n lc) c h.f (by omega) (by have := LT1.out; omega) (by have := LT1.out; omega) (by omega) HF.out HN.out hn1 HR.out HRL.out _ v zs _ _ (Nat.le_refl _) (by simp) HZ.out hzl HZR.out B2.out VV.out).mono ?_
  rintro e w4 ⟨rfl, S', hvis, hown, hgr⟩
  have r4 := Row.grownBy VV.out.r hgr (by have := LT1.out; simp; omega)
  have c4 := r4.cell 0
  have hres : S' = reachL h.f zs := Vis.done (by rw [HN.out]; exact hvis)
  have B4 := Lib.hid (B2.out.grown hgr B2.out.size (fun k hk => by cases hk; omega))
  have O4 := Lib.hid hown; have HRES := Lib.hid hres
  clear r4 hgr hown hvis hres
  go_wp2_with fail
  go_ret
  exact ⟨_, rfl, by rw [← HRES.out]; exact O4.out, B4.out⟩
end Go.Proofs.Ytdagkbgobnaijab
