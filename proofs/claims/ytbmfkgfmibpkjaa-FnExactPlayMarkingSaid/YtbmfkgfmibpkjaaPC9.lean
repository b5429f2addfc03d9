/- What the laws rest on, part 9. -/
import Derived.Test.YtbmfkgfmibpkjaaPC8
namespace Go.Proofs.Ytbmfkgfmibpkjaa
open Go.RowKit Ph

structure StT (w x : World) (lo hi n1 n2 : Nat) (a b c d a7 b7 c7 : Value) (v : Mv) (h : H) (ds : List Int) : Prop where
  rw' : RwM w x lo hi a b c d v
  hr : RowH x (w.heap.size + 1 + 1 + 1) a7 b7 c7
  hp : OwnH x n1 n2 a7 b7 c7 h
  col : Own x lo d ds
  cb : ∀ g, d.ownBlock = some g → g < hi
  q : hi ≤ w.heap.size ∧ w.heap.size + 1 + 1 + 1 < n1
section
variable {w x y : World} {lo hi n1 n2 : Nat} {a b c d a7 b7 c7 : Value} {v : Mv} {h : H} {ds ds' : List Int}
theorem StT.setCol (k : StT w x lo hi n1 n2 a b c d a7 b7 c7 v h ds) (ho : Own y lo d ds') (hg : x.grownBy y d.ownBlock) : StT w y lo hi n1 n2 a b c d a7 b7 c7 v h ds' := by
  have r := k.rw'
  have hr : Row x _ 32 (c3 a7 b7 c7) := k.hr
  have Q := k.q
  exact ⟨⟨Row.grownBy r.m hg (ne_rowM k.col r.m (by decide)), Row.grownBy r.v hg (ne_rowM k.col r.v (by decide)), Row.grownBy r.r hg (ne_rowM k.col r.r (by decide)), r.l.thenG hg (fun j e => by have := (owns_lt k.col e).1; have := k.cb j e; omega), r.lw⟩, Row.grownBy hr hg (ne_rowM k.col hr (by decide)), k.hp.chg (Chg.of_grown (lo := lo) (hi := hi) hg (fun g e => ⟨(owns_lt k.col e).1, k.cb g e⟩)) (.inr (by omega)), ho, k.cb, Q⟩
theorem chgC (w : World) (g k : Nat) (x : Value) : Chg g (g + 1) w (w.setCell ⟨g, k, none⟩ x) :=
  have bb := (Below.refl g w).setCell (p := ⟨g, k, none⟩) (Nat.le_refl _) x
  ⟨bb.os, bb.tape, bb.output, bb.size, fun i _ hx => heap_setCell_other w ⟨g, k, none⟩ i _ (by simp only; omega)⟩
theorem StT.heap (k : StT w x lo hi n1 n2 a b c d a7 b7 c7 v h ds) : StT w (((x.setCell ⟨w.heap.size, 0, none⟩ a7).setCell ⟨w.heap.size, 1, none⟩ b7).setCell ⟨w.heap.size, 2, none⟩ c7) lo hi n1 n2 a7 b7 c7 d a7 b7 c7 v h ds := by
  have r := k.rw'
  have Q := k.q
  have hc := ((chgC x w.heap.size 0 a7).trans (chgC _ w.heap.size 1 b7)).trans (chgC _ w.heap.size 2 c7)
  have hbl : ∀ i, i ≠ w.heap.size → (((x.setCell ⟨w.heap.size, 0, none⟩ a7).setCell ⟨w.heap.size, 1, none⟩ b7).setCell ⟨w.heap.size, 2, none⟩ c7).heap[i]? = x.heap[i]? := fun i hi => by
    rw [heap_setCell_other _ ⟨w.heap.size, 2, none⟩ i _ hi, heap_setCell_other _ ⟨w.heap.size, 1, none⟩ i _ hi, heap_setCell_other _ ⟨w.heap.size, 0, none⟩ i _ hi]
  exact ⟨⟨(Row.set (Row.set (Row.set r.m 0 a7) 1 b7) 2 c7).trans rfl, (hbl _ (by omega)).trans r.v, (hbl _ (by omega)).trans r.r, r.l.thenB ((((Below.refl _ _).setCell (p := ⟨w.heap.size, 0, none⟩) (Nat.le_refl _) a7).setCell (p := ⟨w.heap.size, 1, none⟩) (Nat.le_refl _) b7).setCell (p := ⟨w.heap.size, 2, none⟩) (Nat.le_refl _) c7), r.lw⟩, (hbl _ (by omega)).trans k.hr, k.hp.chg hc (.inr (by omega)), owns_block k.col (fun g e => hbl g (fun q => by rw [q] at e; exact ne_rowM k.col r.m (by decide) e)), k.cb, Q⟩
end
theorem stK1 {h : H} {cs : List Int} {v : Mv} (e : v.k = 1) : stepOk h cs v = (decide (v.b = 0) && decide (v.t = 0) && decide (0 ≤ v.a) && decide (v.a ≤ 100) && !(ofC cs 1).isEmpty) := by unfold stepOk; rw [if_pos e]
theorem stK2 {h : H} {cs : List Int} {v : Mv} (e : v.k = 2) : stepOk h cs v = (liveB (reachL h.f h.r) v.a && refB (reachL h.f h.r) v.t && setFOk h v.a v.b v.t) := by unfold stepOk; rw [if_neg (by omega), if_pos e]
theorem stK3 {h : H} {cs : List Int} {v : Mv} (e : v.k = 3) : stepOk h cs v = (decide (v.b = 0) && refB (reachL h.f h.r) v.t && setROk h v.a v.t) := by unfold stepOk; rw [if_neg (by omega), if_neg (by omega), if_pos e]
theorem stK4 {h : H} {cs : List Int} {v : Mv} (e : v.k = 4) : stepOk h cs v = nwOk h v := by unfold stepOk nwOk; rw [if_neg (by omega), if_neg (by omega), if_neg (by omega), if_pos e]
theorem stK0 {h : H} {cs : List Int} {v : Mv} (e1 : ¬ v.k = 1) (e2 : ¬ v.k = 2) (e3 : ¬ v.k = 3) (e4 : ¬ v.k = 4) : stepOk h cs v = false := by unfold stepOk; rw [if_neg e1, if_neg e2, if_neg e3, if_neg e4]
theorem stC4 {h : H} {cs : List Int} {v : Mv} (put : Bool) (e : v.k = 4) : stepC h cs v put = nwC h cs v put := by
  have q : wasOf h v = h.r.getD v.b.toNat 0 := by unfold wasOf; rw [if_neg (by omega), if_neg (by omega)]
  rw [stepC4 e, q]; rfl
theorem StT.below {w x y : World} {lo hi n1 n2 : Nat} {a b c d a7 b7 c7 : Value} {v : Mv} {h : H} {ds : List Int} (k : StT w x lo hi n1 n2 a b c d a7 b7 c7 v h ds) (hb : Below x.heap.size x y) : StT w y lo hi n1 n2 a b c d a7 b7 c7 v h ds := ⟨k.rw'.below hb, k.hr.below hb, k.hp.below hb, Own.below k.col hb, k.cb, k.q⟩
theorem wOf2 {h : H} {v : Mv} (e : v.k = 2) : wasOf h v = (h.f.getD v.a.toNat []).getD v.b.toNat 0 := by unfold wasOf; rw [if_pos e]
theorem wOf3 {h : H} {v : Mv} (e : v.k = 3) : wasOf h v = h.r.getD v.a.toNat 0 := by unfold wasOf; rw [if_neg (by omega), if_pos e]
end Go.Proofs.Ytbmfkgfmibpkjaa
namespace Go.Proofs.Ytbmfkgfmibpkjaa
open Go.RowKit Ph
set_option maxHeartbeats 12800000 in
set_option maxRecDepth 100000 in
theorem s_l7Step0 (lo hi : Nat) (a b c d : Value) (h : H) (cs : List Int) (v : Mv) (put : Bool) (w : World) (hk : ¬ v.k = 1 ∧ ¬ v.k = 2 ∧ ¬ v.k = 3 ∧ ¬ v.k = 4) (hO : OwnM w lo hi a b c d h cs) (hB : bothB h cs = true) (hl : lo ≤ hi) (hs : hi ≤ w.heap.size) :
    Calls Try.prog 97 #[mv a b c d, mo v, .bool put] w (StE (stepH h v) (stepC h cs v put) (stepOk h cs v) lo hi w) := by
  obtain ⟨⟨pa, qa, e1⟩, ⟨pb, qb, e2⟩, ⟨pc, qc, e3⟩, ⟨pd, qd, e4⟩⟩ := hO.shapes
  subst e1 e2 e3 e4
  obtain ⟨g, hlc, hcol⟩ := bothB_iff.1 hB
  have HBB := Lib.hid hB
  have hn12 := g.n
  have hr4 := g.rn
  have HG := Lib.hid g
  have b0 := (((below1 w (.cells (m4 (.slice pa h.f.length qa) (.slice pb h.l.length qb) (.slice pc h.r.length qc) (.slice pd cs.length qd)) 34)).alloc (by simp) (.cells (mo4 v) 38)).alloc (by simp; omega) (.cells (m4 nilS nilS nilS nilS) 34)).alloc (by simp; omega) (.cells (c3 nilS nilS nilS) 32)
  have R0 := Lib.hid (RwM.mk (v := v) (show RowM _ w.heap.size _ _ _ _ from (((Row.new w 34 (m4 (.slice pa h.f.length qa) (.slice pb h.l.length qb) (.slice pc h.r.length qc) (.slice pd cs.length qd))).alloc (.cells (mo4 v) 38)).alloc (.cells (m4 nilS nilS nilS nilS) 34)).alloc (.cells (c3 nilS nilS nilS) 32)) (((Row.new1 w _ _ _).alloc _).alloc _) ((Row.new2 w _ _ _ _).alloc _) (Chg.of_below (lo := lo) (hi := hi) b0) (by omega))
  have H0 := Lib.hid (show RowH _ (w.heap.size + 1 + 1 + 1) nilS nilS nilS from Row.new3 w (.cells (m4 (.slice pa h.f.length qa) (.slice pb h.l.length qb) (.slice pc h.r.length qc) (.slice pd cs.length qd)) 34) (.cells (mo4 v) 38) (.cells (m4 nilS nilS nilS nilS) 34) 32 (c3 nilS nilS nilS))
  have O0 := Lib.hid (hO.below b0)
  clear hO b0 hB g
  obtain ⟨vk, va, vb, vt⟩ := v
  try simp only
  generalize hnf : h.f.length = nf at *
  have HNF := Lib.hid hnf; clear hnf
  generalize hnl : h.l.length = nl at *
  have HNL := Lib.hid hnl; clear hnl
  generalize hnr : h.r.length = nr at *
  have HNR := Lib.hid hnr; clear hnr
  generalize hnc : cs.length = nc at *
  have HNC := Lib.hid hnc; clear hnc
  have HSW := Lib.hid hs; have HLO := Lib.hid hl; have HCOL := Lib.hid hcol; have HLCN : Hid (nc = nf) := hlc
  clear hs hl hcol hlc
  have v0 : (_ : World).cell? ⟨w.heap.size + 1, 0, none⟩ = some (.int .i64 vk) := R0.out.v.cell 0
  simp only at hk
  have f1 : (vk == 1) = false := by simpa using hk.1
  have f2 : (vk == 2) = false := by simpa using hk.2.1
  have f3 : (vk == 3) = false := by simpa using hk.2.2.1
  have f4 : (vk == 4) = false := by simpa using hk.2.2.2
  have HK := Lib.hid hk
  clear hk
  go_enter Try.func97, Try.ntmps97
  go_upto_region 5 with fail
  generalize ((((w.alloc (.cells (m4 (.slice pa nf qa) (.slice pb nl qb) (.slice pc nr qc) (.slice pd nc qd)) 34)).alloc (.cells (mo4 ⟨vk, va, vb, vt⟩) 38)).alloc (.cells (m4 nilS nilS nilS nilS) 34)).alloc (.cells (c3 nilS nilS nilS) 32)) = w0 at *
  have v1 : w0.cell? ⟨w.heap.size + 1, 1, none⟩ = some (.int .i64 va) := R0.out.v.cell 1
  have v2 : w0.cell? ⟨w.heap.size + 1, 2, none⟩ = some (.int .i64 vb) := R0.out.v.cell 2
  have v3 : w0.cell? ⟨w.heap.size + 1, 3, none⟩ = some (.int .i64 vt) := R0.out.v.cell 3
  have m0 := R0.out.m.cell 0
  have m1 := R0.out.m.cell 1
  have m2 := R0.out.m.cell 2
  have m3 := R0.out.m.cell 3
  have HE := Lib.hid (stK0 (h := h) (cs := cs) (v := ⟨vk, va, vb, vt⟩) HK.out.1 HK.out.2.1 HK.out.2.2.1 HK.out.2.2.2)
  clear HG O0 HCOL HNF HNL HNR HNC
  go_upto_region 22 with fail
  go_wp2_with (first
    | (refine wl_loadM rfl _ rfl w.heap.size (.slice pa nf qa) (.slice pb nl qb) (.slice pc nr qc) (.slice pd nc qd) R0.out.m rfl ?_)
    | (refine wl_storeM rfl _ _ rfl (w.heap.size + 1 + 1) (.slice pa nf qa) (.slice pb nl qb) (.slice pc nr qc) (.slice pd nc qd) _ _ _ _ R0.out.r rfl rfl rfl rfl rfl rfl ?_))
  refine bodyPost_ret (res_row_slot Try.results97 (Row.put R0.out.r (m4 (.slice pa nf qa) (.slice pb nl qb) (.slice pc nr qc) (.slice pd nc qd))) rfl rfl Try.underlying34 rfl info_marking) rfl (R0.out.no _ _ rfl rfl rfl rfl HE.out)
end Go.Proofs.Ytbmfkgfmibpkjaa
namespace Go.Proofs.Ytbmfkgfmibpkjaa
open Go.RowKit Ph
set_option maxHeartbeats 12800000 in
set_option maxRecDepth 100000 in
theorem s_l7Step1 (lo hi : Nat) (a b c d : Value) (h : H) (cs : List Int) (v : Mv) (put : Bool) (w : World) (hk : v.k = 1) (hO : OwnM w lo hi a b c d h cs) (hB : bothB h cs = true) (hl : lo ≤ hi) (hs : hi ≤ w.heap.size) :
    Calls Try.prog 97 #[mv a b c d, mo v, .bool put] w (StE (stepH h v) (stepC h cs v put) (stepOk h cs v) lo hi w) := by
  obtain ⟨⟨pa, qa, e1⟩, ⟨pb, qb, e2⟩, ⟨pc, qc, e3⟩, ⟨pd, qd, e4⟩⟩ := hO.shapes
  subst e1 e2 e3 e4
  obtain ⟨g, hlc, hcol⟩ := bothB_iff.1 hB
  have HBB := Lib.hid hB
  have hn12 := g.n
  have hr4 := g.rn
  have HG := Lib.hid g
  have b0 := (((below1 w (.cells (m4 (.slice pa h.f.length qa) (.slice pb h.l.length qb) (.slice pc h.r.length qc) (.slice pd cs.length qd)) 34)).alloc (by simp) (.cells (mo4 v) 38)).alloc (by simp; omega) (.cells (m4 nilS nilS nilS nilS) 34)).alloc (by simp; omega) (.cells (c3 nilS nilS nilS) 32)
  have R0 := Lib.hid (RwM.mk (v := v) (show RowM _ w.heap.size _ _ _ _ from (((Row.new w 34 (m4 (.slice pa h.f.length qa) (.slice pb h.l.length qb) (.slice pc h.r.length qc) (.slice pd cs.length qd))).alloc (.cells (mo4 v) 38)).alloc (.cells (m4 nilS nilS nilS nilS) 34)).alloc (.cells (c3 nilS nilS nilS) 32)) (((Row.new1 w _ _ _).alloc _).alloc _) ((Row.new2 w _ _ _ _).alloc _) (Chg.of_below (lo := lo) (hi := hi) b0) (by omega))
  have H0 := Lib.hid (show RowH _ (w.heap.size + 1 + 1 + 1) nilS nilS nilS from Row.new3 w (.cells (m4 (.slice pa h.f.length qa) (.slice pb h.l.length qb) (.slice pc h.r.length qc) (.slice pd cs.length qd)) 34) (.cells (mo4 v) 38) (.cells (m4 nilS nilS nilS nilS) 34) 32 (c3 nilS nilS nilS))
  have O0 := Lib.hid (hO.below b0)
  clear hO b0 hB g
  obtain ⟨vk, va, vb, vt⟩ := v
  try simp only
  generalize hnf : h.f.length = nf at *
  have HNF := Lib.hid hnf; clear hnf
  generalize hnl : h.l.length = nl at *
  have HNL := Lib.hid hnl; clear hnl
  generalize hnr : h.r.length = nr at *
  have HNR := Lib.hid hnr; clear hnr
  generalize hnc : cs.length = nc at *
  have HNC := Lib.hid hnc; clear hnc
  have HSW := Lib.hid hs; have HLO := Lib.hid hl; have HCOL := Lib.hid hcol; have HLCN : Hid (nc = nf) := hlc
  clear hs hl hcol hlc
  have v0 : (_ : World).cell? ⟨w.heap.size + 1, 0, none⟩ = some (.int .i64 vk) := R0.out.v.cell 0
  simp only at hk
  subst hk
  go_enter Try.func97, Try.ntmps97
  go_upto_region 5 with fail
  generalize ((((w.alloc (.cells (m4 (.slice pa nf qa) (.slice pb nl qb) (.slice pc nr qc) (.slice pd nc qd)) 34)).alloc (.cells (mo4 ⟨1, va, vb, vt⟩) 38)).alloc (.cells (m4 nilS nilS nilS nilS) 34)).alloc (.cells (c3 nilS nilS nilS) 32)) = w0 at *
  have v1 : w0.cell? ⟨w.heap.size + 1, 1, none⟩ = some (.int .i64 va) := R0.out.v.cell 1
  have v2 : w0.cell? ⟨w.heap.size + 1, 2, none⟩ = some (.int .i64 vb) := R0.out.v.cell 2
  have v3 : w0.cell? ⟨w.heap.size + 1, 3, none⟩ = some (.int .i64 vt) := R0.out.v.cell 3
  have m0 := R0.out.m.cell 0
  have m1 := R0.out.m.cell 1
  have m2 := R0.out.m.cell 2
  have m3 := R0.out.m.cell 3
  have HK1 : Hid (stepOk h cs ⟨1, va, vb, vt⟩ = (decide (vb = 0) && decide (vt = 0) && decide (0 ≤ va) && decide (va ≤ 100) && !(ofC cs 1).isEmpty)) := stK1 rfl
  have RD := Lib.hid (R0.out.below (below_drew (Below.refl w0.heap.size w0)))
  have OD := Lib.hid (O0.out.below (below_drew (Below.refl w0.heap.size w0)))
  have SZ0 : Hid (w.heap.size + 1 + 1 + 1 < w0.heap.size) := Row.lt H0.out
  clear v0 v1 v2 v3 m0 m1 m2 m3 R0 O0 H0
  go_upto_region 6 with fail
  by_cases hb : vb = 0
  rotate_left
  · have hb1 : (vb == 0) = false := by simpa using hb
    have HE : Hid (stepOk h cs ⟨1, va, vb, vt⟩ = false) := by unfold Hid; rw [HK1.out, decide_eq_false hb]; rfl
    clear hb HK1
    refine wp_region_held_drew (S := (fun w' => w'.cell? ⟨w.heap.size, 0, none⟩ = some (.slice pa nf qa) ∧ w'.cell? ⟨w.heap.size, 1, none⟩ = some (.slice pb nl qb) ∧ w'.cell? ⟨w.heap.size, 2, none⟩ = some (.slice pc nr qc) ∧ w'.cell? ⟨w.heap.size, 3, none⟩ = some (.slice pd nc qd) ∧ w'.cell? ⟨w.heap.size + 1, 1, none⟩ = some (.int .i64 va) ∧ w'.cell? ⟨w.heap.size + 1, 2, none⟩ = some (.int .i64 vb) ∧ w'.cell? ⟨w.heap.size + 1, 3, none⟩ = some (.int .i64 vt))) (by kernel_rfl) (⟨RD.out.m.cell 0, RD.out.m.cell 1, RD.out.m.cell 2, RD.out.m.cell 3, RD.out.v.cell 1, RD.out.v.cell 2, RD.out.v.cell 3⟩) (fun hHeld => ?_)
    generalize w0.drew = x1 at *
    refine wpAnyH_take (i := 0) (v := ?va0x1) rfl (by kernel_rfl) (by kernel_rfl) (by kernel_rfl) (fun _ _ _ h => h) (Or.inl ⟨by rfl, ?hy0x1⟩) (by assumption) ?rest0x1
    case hy0x1 => (intro w hSw; (try dsimp only at hSw); go_simp; try with_reducible rfl)
    (try simp only [Act.put, List.getElem_toArray, List.getElem_cons_zero, List.setIfInBounds_toArray, List.set_cons_zero, List.set_cons_succ])
    refine wpAnyH_take (i := 1) (v := ?va1x2) rfl (by kernel_rfl) (by kernel_rfl) (by kernel_rfl) (fun _ _ _ h => h) (Or.inl ⟨by rfl, ?hy1x2⟩) (by assumption) ?rest1x2
    case hy1x2 => (intro w hSw; (try dsimp only at hSw); go_simp; try with_reducible rfl)
    (try simp only [Act.put, List.getElem_toArray, List.getElem_cons_zero, List.getElem_cons_succ, List.setIfInBounds_toArray, List.set_cons_zero, List.set_cons_succ])
    refine wpAnyH_take (i := 2) (v := ?va2x3) rfl (by kernel_rfl) (by kernel_rfl) (by kernel_rfl) (fun _ _ _ h => h) (Or.inl ⟨by rfl, ?hy2x3⟩) (by assumption) ?rest2x3
    case hy2x3 => (intro w hSw; (try dsimp only at hSw); go_simp; try with_reducible rfl)
    (try simp only [Act.put, List.getElem_toArray, List.getElem_cons_zero, List.getElem_cons_succ, List.setIfInBounds_toArray, List.set_cons_zero, List.set_cons_succ])
    refine wpAnyH_take (i := 3) (v := ?va3x4) rfl (by kernel_rfl) (by kernel_rfl) (by kernel_rfl) (fun _ _ _ h => h) (Or.inl ⟨by rfl, ?hy3x4⟩) (by assumption) ?rest3x4
    case hy3x4 => (intro w hSw; (try dsimp only at hSw); go_simp; try with_reducible rfl)
    (try simp only [Act.put, List.getElem_toArray, List.getElem_cons_zero, List.getElem_cons_succ, List.setIfInBounds_toArray, List.set_cons_zero, List.set_cons_succ])
    refine wpAnyH_take (i := 4) (v := ?va4x5) rfl (by kernel_rfl) (by kernel_rfl) (by kernel_rfl) (fun _ _ _ h => h) (Or.inl ⟨by rfl, ?hy4x5⟩) (by assumption) ?rest4x5
    case hy4x5 => (intro w hSw; (try dsimp only at hSw); go_simp; try with_reducible rfl)
    (try simp only [Act.put, List.getElem_toArray, List.getElem_cons_zero, List.getElem_cons_succ, List.setIfInBounds_toArray, List.set_cons_zero, List.set_cons_succ])
    refine wpAnyH_take (i := 5) (v := undef) rfl (by kernel_rfl) (by kernel_rfl) (by kernel_rfl) (fun _ _ _ h => h) (Or.inr ⟨by rfl, rfl⟩) (by assumption) ?_
    (try simp only [Act.put, List.getElem_toArray, List.getElem_cons_zero, List.getElem_cons_succ, List.setIfInBounds_toArray, List.set_cons_zero, List.set_cons_succ])
    refine wpAnyH_take (i := 6) (v := undef) rfl (by kernel_rfl) (by kernel_rfl) (by kernel_rfl) (fun _ _ _ h => h) (Or.inr ⟨by rfl, rfl⟩) (by assumption) ?_
    (try simp only [Act.put, List.getElem_toArray, List.getElem_cons_zero, List.getElem_cons_succ, List.setIfInBounds_toArray, List.set_cons_zero, List.set_cons_succ])
    refine wpAnyH_take (i := 7) (v := undef) rfl (by kernel_rfl) (by kernel_rfl) (by kernel_rfl) (fun _ _ _ h => h) (Or.inr ⟨by rfl, rfl⟩) (by assumption) ?_
    (try simp only [Act.put, List.getElem_toArray, List.getElem_cons_zero, List.getElem_cons_succ, List.setIfInBounds_toArray, List.set_cons_zero, List.set_cons_succ])
    refine wpAnyH_take (i := 8) (v := ?va8x6) rfl (by kernel_rfl) (by kernel_rfl) (by kernel_rfl) (fun _ _ _ h => h) (Or.inl ⟨by rfl, ?hy8x6⟩) (by assumption) ?rest8x6
    case hy8x6 => (intro w hSw; (try dsimp only at hSw); go_simp; try with_reducible rfl)
    (try simp only [Act.put, List.getElem_toArray, List.getElem_cons_zero, List.getElem_cons_succ, List.setIfInBounds_toArray, List.set_cons_zero, List.set_cons_succ])
    refine wpAnyH_take (i := 9) (v := ?va9x7) rfl (by kernel_rfl) (by kernel_rfl) (by kernel_rfl) (fun _ _ _ h => h) (Or.inl ⟨by rfl, ?hy9x7⟩) (by assumption) ?rest9x7
    case hy9x7 => (intro w hSw; (try dsimp only at hSw); go_simp; try with_reducible rfl)
    (try simp only [Act.put, List.getElem_toArray, List.getElem_cons_zero, List.getElem_cons_succ, List.setIfInBounds_toArray, List.set_cons_zero, List.set_cons_succ])
    refine wpAnyH_take (i := 10) (v := undef) rfl (by kernel_rfl) (by kernel_rfl) (by kernel_rfl) (fun _ _ _ h => h) (Or.inr ⟨by rfl, rfl⟩) (by assumption) ?_
    (try simp only [Act.put, List.getElem_toArray, List.getElem_cons_zero, List.getElem_cons_succ, List.setIfInBounds_toArray, List.set_cons_zero, List.set_cons_succ])
    refine wpAnyH_take (i := 11) (v := undef) rfl (by kernel_rfl) (by kernel_rfl) (by kernel_rfl) (fun _ _ _ h => h) (Or.inr ⟨by rfl, rfl⟩) (by assumption) ?_
    (try simp only [Act.put, List.getElem_toArray, List.getElem_cons_zero, List.getElem_cons_succ, List.setIfInBounds_toArray, List.set_cons_zero, List.set_cons_succ])
    refine wpAnyH_take (i := 12) (v := undef) rfl (by kernel_rfl) (by kernel_rfl) (by kernel_rfl) (fun _ _ _ h => h) (Or.inr ⟨by rfl, rfl⟩) (by assumption) ?_
    (try simp only [Act.put, List.getElem_toArray, List.getElem_cons_zero, List.getElem_cons_succ, List.setIfInBounds_toArray, List.set_cons_zero, List.set_cons_succ])
    refine wpAnyH_take (i := 13) (v := ?va13x8) rfl (by kernel_rfl) (by kernel_rfl) (by kernel_rfl) (fun _ _ _ h => h) (Or.inl ⟨by rfl, ?hy13x8⟩) (by assumption) ?rest13x8
    case hy13x8 => (intro w hSw; (try dsimp only at hSw); go_simp; try with_reducible rfl)
    (try simp only [Act.put, List.getElem_toArray, List.getElem_cons_zero, List.getElem_cons_succ, List.setIfInBounds_toArray, List.set_cons_zero, List.set_cons_succ])
    refine wpAnyH_take (i := 14) (v := ?va14x9) rfl (by kernel_rfl) (by kernel_rfl) (by kernel_rfl) (fun _ _ _ h => h) (Or.inl ⟨by rfl, ?hy14x9⟩) (by assumption) ?rest14x9
    case hy14x9 => (intro w hSw; (try dsimp only at hSw); go_simp; try with_reducible rfl)
    (try simp only [Act.put, List.getElem_toArray, List.getElem_cons_zero, List.getElem_cons_succ, List.setIfInBounds_toArray, List.set_cons_zero, List.set_cons_succ])
    refine wpAnyH_take (i := 15) (v := undef) rfl (by kernel_rfl) (by kernel_rfl) (by kernel_rfl) (fun _ _ _ h => h) (Or.inr ⟨by rfl, rfl⟩) (by assumption) ?_
    (try simp only [Act.put, List.getElem_toArray, List.getElem_cons_zero, List.getElem_cons_succ, List.setIfInBounds_toArray, List.set_cons_zero, List.set_cons_succ])
    refine wpAnyH_take (i := 16) (v := undef) rfl (by kernel_rfl) (by kernel_rfl) (by kernel_rfl) (fun _ _ _ h => h) (Or.inr ⟨by rfl, rfl⟩) (by assumption) ?_
    (try simp only [Act.put, List.getElem_toArray, List.getElem_cons_zero, List.getElem_cons_succ, List.setIfInBounds_toArray, List.set_cons_zero, List.set_cons_succ])
    refine wpAnyH_take (i := 17) (v := undef) rfl (by kernel_rfl) (by kernel_rfl) (by kernel_rfl) (fun _ _ _ h => h) (Or.inr ⟨by rfl, rfl⟩) (by assumption) ?_
    (try simp only [Act.put, List.getElem_toArray, List.getElem_cons_zero, List.getElem_cons_succ, List.setIfInBounds_toArray, List.set_cons_zero, List.set_cons_succ])
    refine wpAnyH_take (i := 18) (v := undef) rfl (by kernel_rfl) (by kernel_rfl) (by kernel_rfl) (fun _ _ _ h => h) (Or.inr ⟨by rfl, rfl⟩) (by assumption) ?_
    (try simp only [Act.put, List.getElem_toArray, List.getElem_cons_zero, List.getElem_cons_succ, List.setIfInBounds_toArray, List.set_cons_zero, List.set_cons_succ])
    refine wpAnyH_take (i := 19) (v := ?va19x10) rfl (by kernel_rfl) (by kernel_rfl) (by kernel_rfl) (fun _ _ _ h => h) (Or.inl ⟨by rfl, ?hy19x10⟩) (by assumption) ?rest19x10
    case hy19x10 => (intro w hSw; (try dsimp only at hSw); go_simp; try with_reducible rfl)
    (try simp only [Act.put, List.getElem_toArray, List.getElem_cons_zero, List.getElem_cons_succ, List.setIfInBounds_toArray, List.set_cons_zero, List.set_cons_succ])
    have M8 := Lib.hid (show Row _ w.heap.size 34 (m4 (.slice pa nf qa) (.slice pb nl qb) (.slice pc nr qc) (.slice pd nc qd)) from Row.putOther RD.out.m (m4 (.slice pa nf qa) (.slice pb nl qb) (.slice pc nr qc) (.slice pd nc qd)) (by omega : w.heap.size ≠ w.heap.size + 1 + 1))
    have V8 := Lib.hid (Row.putOther RD.out.v (m4 (.slice pa nf qa) (.slice pb nl qb) (.slice pc nr qc) (.slice pd nc qd)) (by omega : w.heap.size + 1 ≠ w.heap.size + 1 + 1))
    refine wpAnyH_ready (rs := [20]) (by kernel_rfl) (by simp) ?_
    refine AllReadyH.cons rfl (fun K hK => ?_) AllReadyH.nil
    refine wp_store_row 34 _ _ rfl (w.heap.size + 1 + 1) (m4 (.slice pa nf qa) (.slice pb nl qb) (.slice pc nr qc) (.slice pd nc qd)) rfl rfl 34 _ RD.out.r info_marking rfl (by simp [Value.oneCell']) ?_
    refine hK.out _ _ ⟨M8.out.cell 0, M8.out.cell 1, M8.out.cell 2, M8.out.cell 3, V8.out.cell 1, V8.out.cell 2, V8.out.cell 3⟩ (fun hHeld => ?_)
    clear hK K
    (try simp only [Act.put, List.getElem_toArray, List.getElem_cons_zero, List.getElem_cons_succ])
    refine wpAnyH_take (i := 21) (v := ?va21x11) rfl (by kernel_rfl) (by kernel_rfl) (by kernel_rfl) (fun _ _ _ h => h) (Or.inl ⟨by rfl, ?hy21x11⟩) (by assumption) ?rest21x11
    case hy21x11 => (intro w hSw; (try dsimp only at hSw); go_simp; try with_reducible rfl)
    (try simp only [Act.put, List.getElem_toArray, List.getElem_cons_zero, List.getElem_cons_succ, List.setIfInBounds_toArray, List.set_cons_zero, List.set_cons_succ])
    refine wpAnyH_done (by kernel_rfl) ?_ _
    clear hHeld M8 V8
    go_wp2_with fail
    refine bodyPost_ret (res_row_slot Try.results97 (Row.put RD.out.r (m4 (.slice pa nf qa) (.slice pb nl qb) (.slice pc nr qc) (.slice pd nc qd))) rfl rfl Try.underlying34 rfl info_marking) rfl (RD.out.no _ _ rfl rfl rfl rfl HE.out)
  subst hb
  by_cases ht : vt = 0
  rotate_left
  · have ht1 : (vt == 0) = false := by simpa using ht
    have HE : Hid (stepOk h cs ⟨1, va, 0, vt⟩ = false) := by unfold Hid; rw [HK1.out, decide_eq_false ht]; rfl
    clear ht HK1
    refine wp_region_held_drew (S := (fun w' => w'.cell? ⟨w.heap.size, 0, none⟩ = some (.slice pa nf qa) ∧ w'.cell? ⟨w.heap.size, 1, none⟩ = some (.slice pb nl qb) ∧ w'.cell? ⟨w.heap.size, 2, none⟩ = some (.slice pc nr qc) ∧ w'.cell? ⟨w.heap.size, 3, none⟩ = some (.slice pd nc qd) ∧ w'.cell? ⟨w.heap.size + 1, 1, none⟩ = some (.int .i64 va) ∧ w'.cell? ⟨w.heap.size + 1, 2, none⟩ = some (.int .i64 0) ∧ w'.cell? ⟨w.heap.size + 1, 3, none⟩ = some (.int .i64 vt))) (by kernel_rfl) (⟨RD.out.m.cell 0, RD.out.m.cell 1, RD.out.m.cell 2, RD.out.m.cell 3, RD.out.v.cell 1, RD.out.v.cell 2, RD.out.v.cell 3⟩) (fun hHeld => ?_)
    generalize w0.drew = x1 at *
    refine wpAnyH_take (i := 0) (v := ?va0x12) rfl (by kernel_rfl) (by kernel_rfl) (by kernel_rfl) (fun _ _ _ h => h) (Or.inl ⟨by rfl, ?hy0x12⟩) (by assumption) ?rest0x12
    case hy0x12 => (intro w hSw; (try dsimp only at hSw); go_simp; try with_reducible rfl)
    (try simp only [Act.put, List.getElem_toArray, List.getElem_cons_zero, List.setIfInBounds_toArray, List.set_cons_zero, List.set_cons_succ])
    refine wpAnyH_take (i := 1) (v := ?va1x13) rfl (by kernel_rfl) (by kernel_rfl) (by kernel_rfl) (fun _ _ _ h => h) (Or.inl ⟨by rfl, ?hy1x13⟩) (by assumption) ?rest1x13
    case hy1x13 => (intro w hSw; (try dsimp only at hSw); go_simp; try with_reducible rfl)
    (try simp only [Act.put, List.getElem_toArray, List.getElem_cons_zero, List.getElem_cons_succ, List.setIfInBounds_toArray, List.set_cons_zero, List.set_cons_succ])
    refine wpAnyH_take (i := 2) (v := ?va2x14) rfl (by kernel_rfl) (by kernel_rfl) (by kernel_rfl) (fun _ _ _ h => h) (Or.inl ⟨by rfl, ?hy2x14⟩) (by assumption) ?rest2x14
    case hy2x14 => (intro w hSw; (try dsimp only at hSw); go_simp; try with_reducible rfl)
    (try simp only [Act.put, List.getElem_toArray, List.getElem_cons_zero, List.getElem_cons_succ, List.setIfInBounds_toArray, List.set_cons_zero, List.set_cons_succ])
    refine wpAnyH_take (i := 3) (v := ?va3x15) rfl (by kernel_rfl) (by kernel_rfl) (by kernel_rfl) (fun _ _ _ h => h) (Or.inl ⟨by rfl, ?hy3x15⟩) (by assumption) ?rest3x15
    case hy3x15 => (intro w hSw; (try dsimp only at hSw); go_simp; try with_reducible rfl)
    (try simp only [Act.put, List.getElem_toArray, List.getElem_cons_zero, List.getElem_cons_succ, List.setIfInBounds_toArray, List.set_cons_zero, List.set_cons_succ])
    refine wpAnyH_take (i := 4) (v := ?va4x16) rfl (by kernel_rfl) (by kernel_rfl) (by kernel_rfl) (fun _ _ _ h => h) (Or.inl ⟨by rfl, ?hy4x16⟩) (by assumption) ?rest4x16
    case hy4x16 => (intro w hSw; (try dsimp only at hSw); go_simp; try with_reducible rfl)
    (try simp only [Act.put, List.getElem_toArray, List.getElem_cons_zero, List.getElem_cons_succ, List.setIfInBounds_toArray, List.set_cons_zero, List.set_cons_succ])
    refine wpAnyH_take (i := 5) (v := ?va5x17) rfl (by kernel_rfl) (by kernel_rfl) (by kernel_rfl) (fun _ _ _ h => h) (Or.inl ⟨by rfl, ?hy5x17⟩) (by assumption) ?rest5x17
    case hy5x17 => (intro w hSw; (try dsimp only at hSw); go_simp; try with_reducible rfl)
    (try simp only [Act.put, List.getElem_toArray, List.getElem_cons_zero, List.getElem_cons_succ, List.setIfInBounds_toArray, List.set_cons_zero, List.set_cons_succ])
    refine wpAnyH_take (i := 6) (v := ?va6x18) rfl (by kernel_rfl) (by kernel_rfl) (by kernel_rfl) (fun _ _ _ h => h) (Or.inl ⟨by rfl, ?hy6x18⟩) (by assumption) ?rest6x18
    case hy6x18 => (intro w hSw; (try dsimp only at hSw); go_simp; try with_reducible rfl)
    (try simp only [Act.put, List.getElem_toArray, List.getElem_cons_zero, List.getElem_cons_succ, List.setIfInBounds_toArray, List.set_cons_zero, List.set_cons_succ])
    refine wpAnyH_take (i := 7) (v := ?va7x19) rfl (by kernel_rfl) (by kernel_rfl) (by kernel_rfl) (fun _ _ _ h => h) (Or.inl ⟨by rfl, ?hy7x19⟩) (by assumption) ?rest7x19
    case hy7x19 => (intro w hSw; (try dsimp only at hSw); go_simp; try with_reducible rfl)
    (try simp only [Act.put, List.getElem_toArray, List.getElem_cons_zero, List.getElem_cons_succ, List.setIfInBounds_toArray, List.set_cons_zero, List.set_cons_succ])
    refine wpAnyH_take (i := 8) (v := ?va8x20) rfl (by kernel_rfl) (by kernel_rfl) (by kernel_rfl) (fun _ _ _ h => h) (Or.inl ⟨by rfl, ?hy8x20⟩) (by assumption) ?rest8x20
    case hy8x20 => (intro w hSw; (try dsimp only at hSw); go_simp; try with_reducible rfl)
    (try simp only [Act.put, List.getElem_toArray, List.getElem_cons_zero, List.getElem_cons_succ, List.setIfInBounds_toArray, List.set_cons_zero, List.set_cons_succ])
    refine wpAnyH_take (i := 9) (v := ?va9x21) rfl (by kernel_rfl) (by kernel_rfl) (by kernel_rfl) (fun _ _ _ h => h) (Or.inl ⟨by rfl, ?hy9x21⟩) (by assumption) ?rest9x21
    case hy9x21 => (intro w hSw; (try dsimp only at hSw); go_simp; try with_reducible rfl)
    (try simp only [Act.put, List.getElem_toArray, List.getElem_cons_zero, List.getElem_cons_succ, List.setIfInBounds_toArray, List.set_cons_zero, List.set_cons_succ])
    refine wpAnyH_take (i := 10) (v := undef) rfl (by kernel_rfl) (by kernel_rfl) (by kernel_rfl) (fun _ _ _ h => h) (Or.inr ⟨by rfl, rfl⟩) (by assumption) ?_
    (try simp only [Act.put, List.getElem_toArray, List.getElem_cons_zero, List.getElem_cons_succ, List.setIfInBounds_toArray, List.set_cons_zero, List.set_cons_succ])
    refine wpAnyH_take (i := 11) (v := undef) rfl (by kernel_rfl) (by kernel_rfl) (by kernel_rfl) (fun _ _ _ h => h) (Or.inr ⟨by rfl, rfl⟩) (by assumption) ?_
    (try simp only [Act.put, List.getElem_toArray, List.getElem_cons_zero, List.getElem_cons_succ, List.setIfInBounds_toArray, List.set_cons_zero, List.set_cons_succ])
    refine wpAnyH_take (i := 12) (v := undef) rfl (by kernel_rfl) (by kernel_rfl) (by kernel_rfl) (fun _ _ _ h => h) (Or.inr ⟨by rfl, rfl⟩) (by assumption) ?_
    (try simp only [Act.put, List.getElem_toArray, List.getElem_cons_zero, List.getElem_cons_succ, List.setIfInBounds_toArray, List.set_cons_zero, List.set_cons_succ])
    refine wpAnyH_take (i := 13) (v := ?va13x22) rfl (by kernel_rfl) (by kernel_rfl) (by kernel_rfl) (fun _ _ _ h => h) (Or.inl ⟨by rfl, ?hy13x22⟩) (by assumption) ?rest13x22
    case hy13x22 => (intro w hSw; (try dsimp only at hSw); go_simp; try with_reducible rfl)
    (try simp only [Act.put, List.getElem_toArray, List.getElem_cons_zero, List.getElem_cons_succ, List.setIfInBounds_toArray, List.set_cons_zero, List.set_cons_succ])
    refine wpAnyH_take (i := 14) (v := ?va14x23) rfl (by kernel_rfl) (by kernel_rfl) (by kernel_rfl) (fun _ _ _ h => h) (Or.inl ⟨by rfl, ?hy14x23⟩) (by assumption) ?rest14x23
    case hy14x23 => (intro w hSw; (try dsimp only at hSw); go_simp; try with_reducible rfl)
    (try simp only [Act.put, List.getElem_toArray, List.getElem_cons_zero, List.getElem_cons_succ, List.setIfInBounds_toArray, List.set_cons_zero, List.set_cons_succ])
    refine wpAnyH_take (i := 15) (v := undef) rfl (by kernel_rfl) (by kernel_rfl) (by kernel_rfl) (fun _ _ _ h => h) (Or.inr ⟨by rfl, rfl⟩) (by assumption) ?_
    (try simp only [Act.put, List.getElem_toArray, List.getElem_cons_zero, List.getElem_cons_succ, List.setIfInBounds_toArray, List.set_cons_zero, List.set_cons_succ])
    refine wpAnyH_take (i := 16) (v := undef) rfl (by kernel_rfl) (by kernel_rfl) (by kernel_rfl) (fun _ _ _ h => h) (Or.inr ⟨by rfl, rfl⟩) (by assumption) ?_
    (try simp only [Act.put, List.getElem_toArray, List.getElem_cons_zero, List.getElem_cons_succ, List.setIfInBounds_toArray, List.set_cons_zero, List.set_cons_succ])
    refine wpAnyH_take (i := 17) (v := undef) rfl (by kernel_rfl) (by kernel_rfl) (by kernel_rfl) (fun _ _ _ h => h) (Or.inr ⟨by rfl, rfl⟩) (by assumption) ?_
    (try simp only [Act.put, List.getElem_toArray, List.getElem_cons_zero, List.getElem_cons_succ, List.setIfInBounds_toArray, List.set_cons_zero, List.set_cons_succ])
    refine wpAnyH_take (i := 18) (v := undef) rfl (by kernel_rfl) (by kernel_rfl) (by kernel_rfl) (fun _ _ _ h => h) (Or.inr ⟨by rfl, rfl⟩) (by assumption) ?_
    (try simp only [Act.put, List.getElem_toArray, List.getElem_cons_zero, List.getElem_cons_succ, List.setIfInBounds_toArray, List.set_cons_zero, List.set_cons_succ])
    refine wpAnyH_take (i := 19) (v := ?va19x24) rfl (by kernel_rfl) (by kernel_rfl) (by kernel_rfl) (fun _ _ _ h => h) (Or.inl ⟨by rfl, ?hy19x24⟩) (by assumption) ?rest19x24
    case hy19x24 => (intro w hSw; (try dsimp only at hSw); go_simp; try with_reducible rfl)
    (try simp only [Act.put, List.getElem_toArray, List.getElem_cons_zero, List.getElem_cons_succ, List.setIfInBounds_toArray, List.set_cons_zero, List.set_cons_succ])
    have M8 := Lib.hid (show Row _ w.heap.size 34 (m4 (.slice pa nf qa) (.slice pb nl qb) (.slice pc nr qc) (.slice pd nc qd)) from Row.putOther RD.out.m (m4 (.slice pa nf qa) (.slice pb nl qb) (.slice pc nr qc) (.slice pd nc qd)) (by omega : w.heap.size ≠ w.heap.size + 1 + 1))
    have V8 := Lib.hid (Row.putOther RD.out.v (m4 (.slice pa nf qa) (.slice pb nl qb) (.slice pc nr qc) (.slice pd nc qd)) (by omega : w.heap.size + 1 ≠ w.heap.size + 1 + 1))
    refine wpAnyH_ready (rs := [20]) (by kernel_rfl) (by simp) ?_
    refine AllReadyH.cons rfl (fun K hK => ?_) AllReadyH.nil
    refine wp_store_row 34 _ _ rfl (w.heap.size + 1 + 1) (m4 (.slice pa nf qa) (.slice pb nl qb) (.slice pc nr qc) (.slice pd nc qd)) rfl rfl 34 _ RD.out.r info_marking rfl (by simp [Value.oneCell']) ?_
    refine hK.out _ _ ⟨M8.out.cell 0, M8.out.cell 1, M8.out.cell 2, M8.out.cell 3, V8.out.cell 1, V8.out.cell 2, V8.out.cell 3⟩ (fun hHeld => ?_)
    clear hK K
    (try simp only [Act.put, List.getElem_toArray, List.getElem_cons_zero, List.getElem_cons_succ])
    refine wpAnyH_take (i := 21) (v := ?va21x25) rfl (by kernel_rfl) (by kernel_rfl) (by kernel_rfl) (fun _ _ _ h => h) (Or.inl ⟨by rfl, ?hy21x25⟩) (by assumption) ?rest21x25
    case hy21x25 => (intro w hSw; (try dsimp only at hSw); go_simp; try with_reducible rfl)
    (try simp only [Act.put, List.getElem_toArray, List.getElem_cons_zero, List.getElem_cons_succ, List.setIfInBounds_toArray, List.set_cons_zero, List.set_cons_succ])
    refine wpAnyH_done (by kernel_rfl) ?_ _
    clear hHeld M8 V8
    go_wp2_with fail
    refine bodyPost_ret (res_row_slot Try.results97 (Row.put RD.out.r (m4 (.slice pa nf qa) (.slice pb nl qb) (.slice pc nr qc) (.slice pd nc qd))) rfl rfl Try.underlying34 rfl info_marking) rfl (RD.out.no _ _ rfl rfl rfl rfl HE.out)
  subst ht
  by_cases ha : 0 ≤ va ∧ va ≤ 100
  rotate_left
  · have HE : Hid (stepOk h cs ⟨1, va, 0, 0⟩ = false) := by
      unfold Hid; rw [HK1.out]
      by_cases q : 0 ≤ va
      · rw [decide_eq_false (show ¬ va ≤ 100 from fun r => ha ⟨q, r⟩)]; simp
      · rw [decide_eq_false q]; simp
    have HA : Hid (va < 0 ∨ 100 < va) := by unfold Hid; omega
    clear ha HK1
    refine wp_region_held_drew (S := (fun w' => w'.cell? ⟨w.heap.size, 0, none⟩ = some (.slice pa nf qa) ∧ w'.cell? ⟨w.heap.size, 1, none⟩ = some (.slice pb nl qb) ∧ w'.cell? ⟨w.heap.size, 2, none⟩ = some (.slice pc nr qc) ∧ w'.cell? ⟨w.heap.size, 3, none⟩ = some (.slice pd nc qd) ∧ w'.cell? ⟨w.heap.size + 1, 1, none⟩ = some (.int .i64 va) ∧ w'.cell? ⟨w.heap.size + 1, 2, none⟩ = some (.int .i64 0) ∧ w'.cell? ⟨w.heap.size + 1, 3, none⟩ = some (.int .i64 0))) (by kernel_rfl) (⟨RD.out.m.cell 0, RD.out.m.cell 1, RD.out.m.cell 2, RD.out.m.cell 3, RD.out.v.cell 1, RD.out.v.cell 2, RD.out.v.cell 3⟩) (fun hHeld => ?_)
    generalize w0.drew = x1 at *
    refine wpAnyH_take (i := 0) (v := ?va0x26) rfl (by kernel_rfl) (by kernel_rfl) (by kernel_rfl) (fun _ _ _ h => h) (Or.inl ⟨by rfl, ?hy0x26⟩) (by assumption) ?rest0x26
    case hy0x26 => (intro w hSw; (try dsimp only at hSw); go_simp; try with_reducible rfl)
    (try simp only [Act.put, List.getElem_toArray, List.getElem_cons_zero, List.setIfInBounds_toArray, List.set_cons_zero, List.set_cons_succ])
    refine wpAnyH_take (i := 1) (v := ?va1x27) rfl (by kernel_rfl) (by kernel_rfl) (by kernel_rfl) (fun _ _ _ h => h) (Or.inl ⟨by rfl, ?hy1x27⟩) (by assumption) ?rest1x27
    case hy1x27 => (intro w hSw; (try dsimp only at hSw); go_simp; try with_reducible rfl)
    (try simp only [Act.put, List.getElem_toArray, List.getElem_cons_zero, List.getElem_cons_succ, List.setIfInBounds_toArray, List.set_cons_zero, List.set_cons_succ])
    refine wpAnyH_take (i := 2) (v := ?va2x28) rfl (by kernel_rfl) (by kernel_rfl) (by kernel_rfl) (fun _ _ _ h => h) (Or.inl ⟨by rfl, ?hy2x28⟩) (by assumption) ?rest2x28
    case hy2x28 => (intro w hSw; (try dsimp only at hSw); go_simp; try with_reducible rfl)
    (try simp only [Act.put, List.getElem_toArray, List.getElem_cons_zero, List.getElem_cons_succ, List.setIfInBounds_toArray, List.set_cons_zero, List.set_cons_succ])
    refine wpAnyH_take (i := 3) (v := ?va3x29) rfl (by kernel_rfl) (by kernel_rfl) (by kernel_rfl) (fun _ _ _ h => h) (Or.inl ⟨by rfl, ?hy3x29⟩) (by assumption) ?rest3x29
    case hy3x29 => (intro w hSw; (try dsimp only at hSw); go_simp; try with_reducible rfl)
    (try simp only [Act.put, List.getElem_toArray, List.getElem_cons_zero, List.getElem_cons_succ, List.setIfInBounds_toArray, List.set_cons_zero, List.set_cons_succ])
    refine wpAnyH_take (i := 4) (v := ?va4x30) rfl (by kernel_rfl) (by kernel_rfl) (by kernel_rfl) (fun _ _ _ h => h) (Or.inl ⟨by rfl, ?hy4x30⟩) (by assumption) ?rest4x30
    case hy4x30 => (intro w hSw; (try dsimp only at hSw); go_simp; try with_reducible rfl)
    (try simp only [Act.put, List.getElem_toArray, List.getElem_cons_zero, List.getElem_cons_succ, List.setIfInBounds_toArray, List.set_cons_zero, List.set_cons_succ])
    refine wpAnyH_take (i := 5) (v := ?va5x31) rfl (by kernel_rfl) (by kernel_rfl) (by kernel_rfl) (fun _ _ _ h => h) (Or.inl ⟨by rfl, ?hy5x31⟩) (by assumption) ?rest5x31
    case hy5x31 => (intro w hSw; (try dsimp only at hSw); go_simp; try with_reducible rfl)
    (try simp only [Act.put, List.getElem_toArray, List.getElem_cons_zero, List.getElem_cons_succ, List.setIfInBounds_toArray, List.set_cons_zero, List.set_cons_succ])
    refine wpAnyH_take (i := 6) (v := ?va6x32) rfl (by kernel_rfl) (by kernel_rfl) (by kernel_rfl) (fun _ _ _ h => h) (Or.inl ⟨by rfl, ?hy6x32⟩) (by assumption) ?rest6x32
    case hy6x32 => (intro w hSw; (try dsimp only at hSw); go_simp; try with_reducible rfl)
    (try simp only [Act.put, List.getElem_toArray, List.getElem_cons_zero, List.getElem_cons_succ, List.setIfInBounds_toArray, List.set_cons_zero, List.set_cons_succ])
    refine wpAnyH_take (i := 7) (v := ?va7x33) rfl (by kernel_rfl) (by kernel_rfl) (by kernel_rfl) (fun _ _ _ h => h) (Or.inl ⟨by rfl, ?hy7x33⟩) (by assumption) ?rest7x33
    case hy7x33 => (intro w hSw; (try dsimp only at hSw); go_simp; try with_reducible rfl)
    (try simp only [Act.put, List.getElem_toArray, List.getElem_cons_zero, List.getElem_cons_succ, List.setIfInBounds_toArray, List.set_cons_zero, List.set_cons_succ])
    refine wpAnyH_take (i := 8) (v := ?va8x34) rfl (by kernel_rfl) (by kernel_rfl) (by kernel_rfl) (fun _ _ _ h => h) (Or.inl ⟨by rfl, ?hy8x34⟩) (by assumption) ?rest8x34
    case hy8x34 => (intro w hSw; (try dsimp only at hSw); go_simp; try with_reducible rfl)
    (try simp only [Act.put, List.getElem_toArray, List.getElem_cons_zero, List.getElem_cons_succ, List.setIfInBounds_toArray, List.set_cons_zero, List.set_cons_succ])
    refine wpAnyH_take (i := 9) (v := ?va9x35) rfl (by kernel_rfl) (by kernel_rfl) (by kernel_rfl) (fun _ _ _ h => h) (Or.inl ⟨by rfl, ?hy9x35⟩) (by assumption) ?rest9x35
    case hy9x35 => (intro w hSw; (try dsimp only at hSw); go_simp; try with_reducible rfl)
    (try simp only [Act.put, List.getElem_toArray, List.getElem_cons_zero, List.getElem_cons_succ, List.setIfInBounds_toArray, List.set_cons_zero, List.set_cons_succ])
    refine wpAnyH_take (i := 10) (v := ?va10x36) rfl (by kernel_rfl) (by kernel_rfl) (by kernel_rfl) (fun _ _ _ h => h) (Or.inl ⟨by rfl, ?hy10x36⟩) (by assumption) ?rest10x36
    case hy10x36 => (intro w hSw; (try dsimp only at hSw); go_simp; try with_reducible rfl)
    (try simp only [Act.put, List.getElem_toArray, List.getElem_cons_zero, List.getElem_cons_succ, List.setIfInBounds_toArray, List.set_cons_zero, List.set_cons_succ])
    refine wpAnyH_take (i := 11) (v := ?va11x37) rfl (by kernel_rfl) (by kernel_rfl) (by kernel_rfl) (fun _ _ _ h => h) (Or.inl ⟨by rfl, ?hy11x37⟩) (by assumption) ?rest11x37
    case hy11x37 => (intro w hSw; (try dsimp only at hSw); go_simp; try with_reducible rfl)
    (try simp only [Act.put, List.getElem_toArray, List.getElem_cons_zero, List.getElem_cons_succ, List.setIfInBounds_toArray, List.set_cons_zero, List.set_cons_succ])
    refine wpAnyH_ready (rs := [12]) (by kernel_rfl) (by simp) ?_
    refine AllReadyH.cons rfl (fun K hK => ?_) AllReadyH.nil
    go_simp
    refine (s_l1In_no va 0 100 x1 HA.out).mono ?_
    rintro e w2 ⟨rfl, rfl⟩
    refine hK.out _ _ ⟨RD.out.m.cell 0, RD.out.m.cell 1, RD.out.m.cell 2, RD.out.m.cell 3, RD.out.v.cell 1, RD.out.v.cell 2, RD.out.v.cell 3⟩ (fun hHeld => ?_)
    clear hK K
    (try simp only [Act.put, List.getElem_toArray, List.getElem_cons_zero, List.getElem_cons_succ, List.setIfInBounds_toArray, List.set_cons_zero, List.set_cons_succ])
    refine wpAnyH_take (i := 13) (v := ?va13x38) rfl (by kernel_rfl) (by kernel_rfl) (by kernel_rfl) (fun _ _ _ h => h) (Or.inl ⟨by rfl, ?hy13x38⟩) (by assumption) ?rest13x38
    case hy13x38 => (intro w hSw; (try dsimp only at hSw); go_simp; try with_reducible rfl)
    (try simp only [Act.put, List.getElem_toArray, List.getElem_cons_zero, List.getElem_cons_succ, List.setIfInBounds_toArray, List.set_cons_zero, List.set_cons_succ])
    refine wpAnyH_take (i := 14) (v := ?va14x39) rfl (by kernel_rfl) (by kernel_rfl) (by kernel_rfl) (fun _ _ _ h => h) (Or.inl ⟨by rfl, ?hy14x39⟩) (by assumption) ?rest14x39
    case hy14x39 => (intro w hSw; (try dsimp only at hSw); go_simp; try with_reducible rfl)
    (try simp only [Act.put, List.getElem_toArray, List.getElem_cons_zero, List.getElem_cons_succ, List.setIfInBounds_toArray, List.set_cons_zero, List.set_cons_succ])
    refine wpAnyH_take (i := 15) (v := undef) rfl (by kernel_rfl) (by kernel_rfl) (by kernel_rfl) (fun _ _ _ h => h) (Or.inr ⟨by rfl, rfl⟩) (by assumption) ?_
    (try simp only [Act.put, List.getElem_toArray, List.getElem_cons_zero, List.getElem_cons_succ, List.setIfInBounds_toArray, List.set_cons_zero, List.set_cons_succ])
    refine wpAnyH_take (i := 16) (v := undef) rfl (by kernel_rfl) (by kernel_rfl) (by kernel_rfl) (fun _ _ _ h => h) (Or.inr ⟨by rfl, rfl⟩) (by assumption) ?_
    (try simp only [Act.put, List.getElem_toArray, List.getElem_cons_zero, List.getElem_cons_succ, List.setIfInBounds_toArray, List.set_cons_zero, List.set_cons_succ])
    refine wpAnyH_take (i := 17) (v := undef) rfl (by kernel_rfl) (by kernel_rfl) (by kernel_rfl) (fun _ _ _ h => h) (Or.inr ⟨by rfl, rfl⟩) (by assumption) ?_
    (try simp only [Act.put, List.getElem_toArray, List.getElem_cons_zero, List.getElem_cons_succ, List.setIfInBounds_toArray, List.set_cons_zero, List.set_cons_succ])
    refine wpAnyH_take (i := 18) (v := undef) rfl (by kernel_rfl) (by kernel_rfl) (by kernel_rfl) (fun _ _ _ h => h) (Or.inr ⟨by rfl, rfl⟩) (by assumption) ?_
    (try simp only [Act.put, List.getElem_toArray, List.getElem_cons_zero, List.getElem_cons_succ, List.setIfInBounds_toArray, List.set_cons_zero, List.set_cons_succ])
    refine wpAnyH_take (i := 19) (v := ?va19x40) rfl (by kernel_rfl) (by kernel_rfl) (by kernel_rfl) (fun _ _ _ h => h) (Or.inl ⟨by rfl, ?hy19x40⟩) (by assumption) ?rest19x40
    case hy19x40 => (intro w hSw; (try dsimp only at hSw); go_simp; try with_reducible rfl)
    (try simp only [Act.put, List.getElem_toArray, List.getElem_cons_zero, List.getElem_cons_succ, List.setIfInBounds_toArray, List.set_cons_zero, List.set_cons_succ])
    have M8 := Lib.hid (show Row _ w.heap.size 34 (m4 (.slice pa nf qa) (.slice pb nl qb) (.slice pc nr qc) (.slice pd nc qd)) from Row.putOther RD.out.m (m4 (.slice pa nf qa) (.slice pb nl qb) (.slice pc nr qc) (.slice pd nc qd)) (by omega : w.heap.size ≠ w.heap.size + 1 + 1))
    have V8 := Lib.hid (Row.putOther RD.out.v (m4 (.slice pa nf qa) (.slice pb nl qb) (.slice pc nr qc) (.slice pd nc qd)) (by omega : w.heap.size + 1 ≠ w.heap.size + 1 + 1))
    refine wpAnyH_ready (rs := [20]) (by kernel_rfl) (by simp) ?_
    refine AllReadyH.cons rfl (fun K hK => ?_) AllReadyH.nil
    refine wp_store_row 34 _ _ rfl (w.heap.size + 1 + 1) (m4 (.slice pa nf qa) (.slice pb nl qb) (.slice pc nr qc) (.slice pd nc qd)) rfl rfl 34 _ RD.out.r info_marking rfl (by simp [Value.oneCell']) ?_
    refine hK.out _ _ ⟨M8.out.cell 0, M8.out.cell 1, M8.out.cell 2, M8.out.cell 3, V8.out.cell 1, V8.out.cell 2, V8.out.cell 3⟩ (fun hHeld => ?_)
    clear hK K
    (try simp only [Act.put, List.getElem_toArray, List.getElem_cons_zero, List.getElem_cons_succ])
    refine wpAnyH_take (i := 21) (v := ?va21x41) rfl (by kernel_rfl) (by kernel_rfl) (by kernel_rfl) (fun _ _ _ h => h) (Or.inl ⟨by rfl, ?hy21x41⟩) (by assumption) ?rest21x41
    case hy21x41 => (intro w hSw; (try dsimp only at hSw); go_simp; try with_reducible rfl)
    (try simp only [Act.put, List.getElem_toArray, List.getElem_cons_zero, List.getElem_cons_succ, List.setIfInBounds_toArray, List.set_cons_zero, List.set_cons_succ])
    refine wpAnyH_done (by kernel_rfl) ?_ _
    clear hHeld M8 V8
    go_wp2_with fail
    refine bodyPost_ret (res_row_slot Try.results97 (Row.put RD.out.r (m4 (.slice pa nf qa) (.slice pb nl qb) (.slice pc nr qc) (.slice pd nc qd))) rfl rfl Try.underlying34 rfl info_marking) rfl (RD.out.no _ _ rfl rfl rfl rfl HE.out)
  obtain ⟨ha0, ha1⟩ := ha
  have HE : Hid (stepOk h cs ⟨1, va, 0, 0⟩ = !(ofC cs 1).isEmpty) := by unfold Hid; rw [HK1.out, decide_eq_true ha0, decide_eq_true ha1]; rfl
  have HA := Lib.hid (And.intro ha0 ha1)
  clear ha0 ha1 HK1
  refine wp_region_held_drew (S := (fun w' => w'.cell? ⟨w.heap.size, 0, none⟩ = some (.slice pa nf qa) ∧ w'.cell? ⟨w.heap.size, 1, none⟩ = some (.slice pb nl qb) ∧ w'.cell? ⟨w.heap.size, 2, none⟩ = some (.slice pc nr qc) ∧ w'.cell? ⟨w.heap.size, 3, none⟩ = some (.slice pd nc qd) ∧ w'.cell? ⟨w.heap.size + 1, 1, none⟩ = some (.int .i64 va) ∧ w'.cell? ⟨w.heap.size + 1, 2, none⟩ = some (.int .i64 0) ∧ w'.cell? ⟨w.heap.size + 1, 3, none⟩ = some (.int .i64 0))) (by kernel_rfl) (⟨RD.out.m.cell 0, RD.out.m.cell 1, RD.out.m.cell 2, RD.out.m.cell 3, RD.out.v.cell 1, RD.out.v.cell 2, RD.out.v.cell 3⟩) (fun hHeld => ?_)
  generalize w0.drew = x1 at *
  refine wpAnyH_take (i := 0) (v := ?va0x42) rfl (by kernel_rfl) (by kernel_rfl) (by kernel_rfl) (fun _ _ _ h => h) (Or.inl ⟨by rfl, ?hy0x42⟩) (by assumption) ?rest0x42
  case hy0x42 => (intro w hSw; (try dsimp only at hSw); go_simp; try with_reducible rfl)
  (try simp only [Act.put, List.getElem_toArray, List.getElem_cons_zero, List.setIfInBounds_toArray, List.set_cons_zero, List.set_cons_succ])
  refine wpAnyH_take (i := 1) (v := ?va1x43) rfl (by kernel_rfl) (by kernel_rfl) (by kernel_rfl) (fun _ _ _ h => h) (Or.inl ⟨by rfl, ?hy1x43⟩) (by assumption) ?rest1x43
  case hy1x43 => (intro w hSw; (try dsimp only at hSw); go_simp; try with_reducible rfl)
  (try simp only [Act.put, List.getElem_toArray, List.getElem_cons_zero, List.getElem_cons_succ, List.setIfInBounds_toArray, List.set_cons_zero, List.set_cons_succ])
  refine wpAnyH_take (i := 2) (v := ?va2x44) rfl (by kernel_rfl) (by kernel_rfl) (by kernel_rfl) (fun _ _ _ h => h) (Or.inl ⟨by rfl, ?hy2x44⟩) (by assumption) ?rest2x44
  case hy2x44 => (intro w hSw; (try dsimp only at hSw); go_simp; try with_reducible rfl)
  (try simp only [Act.put, List.getElem_toArray, List.getElem_cons_zero, List.getElem_cons_succ, List.setIfInBounds_toArray, List.set_cons_zero, List.set_cons_succ])
  refine wpAnyH_take (i := 3) (v := ?va3x45) rfl (by kernel_rfl) (by kernel_rfl) (by kernel_rfl) (fun _ _ _ h => h) (Or.inl ⟨by rfl, ?hy3x45⟩) (by assumption) ?rest3x45
  case hy3x45 => (intro w hSw; (try dsimp only at hSw); go_simp; try with_reducible rfl)
  (try simp only [Act.put, List.getElem_toArray, List.getElem_cons_zero, List.getElem_cons_succ, List.setIfInBounds_toArray, List.set_cons_zero, List.set_cons_succ])
  refine wpAnyH_take (i := 4) (v := ?va4x46) rfl (by kernel_rfl) (by kernel_rfl) (by kernel_rfl) (fun _ _ _ h => h) (Or.inl ⟨by rfl, ?hy4x46⟩) (by assumption) ?rest4x46
  case hy4x46 => (intro w hSw; (try dsimp only at hSw); go_simp; try with_reducible rfl)
  (try simp only [Act.put, List.getElem_toArray, List.getElem_cons_zero, List.getElem_cons_succ, List.setIfInBounds_toArray, List.set_cons_zero, List.set_cons_succ])
  refine wpAnyH_take (i := 5) (v := ?va5x47) rfl (by kernel_rfl) (by kernel_rfl) (by kernel_rfl) (fun _ _ _ h => h) (Or.inl ⟨by rfl, ?hy5x47⟩) (by assumption) ?rest5x47
  case hy5x47 => (intro w hSw; (try dsimp only at hSw); go_simp; try with_reducible rfl)
  (try simp only [Act.put, List.getElem_toArray, List.getElem_cons_zero, List.getElem_cons_succ, List.setIfInBounds_toArray, List.set_cons_zero, List.set_cons_succ])
  refine wpAnyH_take (i := 6) (v := ?va6x48) rfl (by kernel_rfl) (by kernel_rfl) (by kernel_rfl) (fun _ _ _ h => h) (Or.inl ⟨by rfl, ?hy6x48⟩) (by assumption) ?rest6x48
  case hy6x48 => (intro w hSw; (try dsimp only at hSw); go_simp; try with_reducible rfl)
  (try simp only [Act.put, List.getElem_toArray, List.getElem_cons_zero, List.getElem_cons_succ, List.setIfInBounds_toArray, List.set_cons_zero, List.set_cons_succ])
  refine wpAnyH_take (i := 7) (v := ?va7x49) rfl (by kernel_rfl) (by kernel_rfl) (by kernel_rfl) (fun _ _ _ h => h) (Or.inl ⟨by rfl, ?hy7x49⟩) (by assumption) ?rest7x49
  case hy7x49 => (intro w hSw; (try dsimp only at hSw); go_simp; try with_reducible rfl)
  (try simp only [Act.put, List.getElem_toArray, List.getElem_cons_zero, List.getElem_cons_succ, List.setIfInBounds_toArray, List.set_cons_zero, List.set_cons_succ])
  refine wpAnyH_take (i := 8) (v := ?va8x50) rfl (by kernel_rfl) (by kernel_rfl) (by kernel_rfl) (fun _ _ _ h => h) (Or.inl ⟨by rfl, ?hy8x50⟩) (by assumption) ?rest8x50
  case hy8x50 => (intro w hSw; (try dsimp only at hSw); go_simp; try with_reducible rfl)
  (try simp only [Act.put, List.getElem_toArray, List.getElem_cons_zero, List.getElem_cons_succ, List.setIfInBounds_toArray, List.set_cons_zero, List.set_cons_succ])
  refine wpAnyH_take (i := 9) (v := ?va9x51) rfl (by kernel_rfl) (by kernel_rfl) (by kernel_rfl) (fun _ _ _ h => h) (Or.inl ⟨by rfl, ?hy9x51⟩) (by assumption) ?rest9x51
  case hy9x51 => (intro w hSw; (try dsimp only at hSw); go_simp; try with_reducible rfl)
  (try simp only [Act.put, List.getElem_toArray, List.getElem_cons_zero, List.getElem_cons_succ, List.setIfInBounds_toArray, List.set_cons_zero, List.set_cons_succ])
  refine wpAnyH_take (i := 10) (v := ?va10x52) rfl (by kernel_rfl) (by kernel_rfl) (by kernel_rfl) (fun _ _ _ h => h) (Or.inl ⟨by rfl, ?hy10x52⟩) (by assumption) ?rest10x52
  case hy10x52 => (intro w hSw; (try dsimp only at hSw); go_simp; try with_reducible rfl)
  (try simp only [Act.put, List.getElem_toArray, List.getElem_cons_zero, List.getElem_cons_succ, List.setIfInBounds_toArray, List.set_cons_zero, List.set_cons_succ])
  refine wpAnyH_take (i := 11) (v := ?va11x53) rfl (by kernel_rfl) (by kernel_rfl) (by kernel_rfl) (fun _ _ _ h => h) (Or.inl ⟨by rfl, ?hy11x53⟩) (by assumption) ?rest11x53
  case hy11x53 => (intro w hSw; (try dsimp only at hSw); go_simp; try with_reducible rfl)
  (try simp only [Act.put, List.getElem_toArray, List.getElem_cons_zero, List.getElem_cons_succ, List.setIfInBounds_toArray, List.set_cons_zero, List.set_cons_succ])
  refine wpAnyH_ready (rs := [12]) (by kernel_rfl) (by simp) ?_
  refine AllReadyH.cons rfl (fun K hK => ?_) AllReadyH.nil
  go_simp
  refine (s_l1In_yes va 0 100 x1 HA.out.1 HA.out.2).mono ?_
  rintro e w2 ⟨rfl, rfl⟩
  refine hK.out _ _ ⟨RD.out.m.cell 0, RD.out.m.cell 1, RD.out.m.cell 2, RD.out.m.cell 3, RD.out.v.cell 1, RD.out.v.cell 2, RD.out.v.cell 3⟩ (fun hHeld => ?_)
  clear hK K
  (try simp only [Act.put, List.getElem_toArray, List.getElem_cons_zero, List.getElem_cons_succ, List.setIfInBounds_toArray, List.set_cons_zero, List.set_cons_succ])
  refine wpAnyH_take (i := 13) (v := ?va13x54) rfl (by kernel_rfl) (by kernel_rfl) (by kernel_rfl) (fun _ _ _ h => h) (Or.inl ⟨by rfl, ?hy13x54⟩) (by assumption) ?rest13x54
  case hy13x54 => (intro w hSw; (try dsimp only at hSw); go_simp; try with_reducible rfl)
  (try simp only [Act.put, List.getElem_toArray, List.getElem_cons_zero, List.getElem_cons_succ, List.setIfInBounds_toArray, List.set_cons_zero, List.set_cons_succ])
  refine wpAnyH_take (i := 14) (v := ?va14x55) rfl (by kernel_rfl) (by kernel_rfl) (by kernel_rfl) (fun _ _ _ h => h) (Or.inl ⟨by rfl, ?hy14x55⟩) (by assumption) ?rest14x55
  case hy14x55 => (intro w hSw; (try dsimp only at hSw); go_simp; try with_reducible rfl)
  (try simp only [Act.put, List.getElem_toArray, List.getElem_cons_zero, List.getElem_cons_succ, List.setIfInBounds_toArray, List.set_cons_zero, List.set_cons_succ])
  refine wpAnyH_take (i := 15) (v := ?va15x56) rfl (by kernel_rfl) (by kernel_rfl) (by kernel_rfl) (fun _ _ _ h => h) (Or.inl ⟨by rfl, ?hy15x56⟩) (by assumption) ?rest15x56
  case hy15x56 => (intro w hSw; (try dsimp only at hSw); go_simp; try with_reducible rfl)
  (try simp only [Act.put, List.getElem_toArray, List.getElem_cons_zero, List.getElem_cons_succ, List.setIfInBounds_toArray, List.set_cons_zero, List.set_cons_succ])
  refine wpAnyH_take (i := 16) (v := ?va16x57) rfl (by kernel_rfl) (by kernel_rfl) (by kernel_rfl) (fun _ _ _ h => h) (Or.inl ⟨by rfl, ?hy16x57⟩) (by assumption) ?rest16x57
  case hy16x57 => (intro w hSw; (try dsimp only at hSw); go_simp; try with_reducible rfl)
  (try simp only [Act.put, List.getElem_toArray, List.getElem_cons_zero, List.getElem_cons_succ, List.setIfInBounds_toArray, List.set_cons_zero, List.set_cons_succ])
  refine wpAnyH_take (i := 17) (v := ?va17x58) rfl (by kernel_rfl) (by kernel_rfl) (by kernel_rfl) (fun _ _ _ h => h) (Or.inl ⟨by rfl, ?hy17x58⟩) (by assumption) ?rest17x58
  case hy17x58 => (intro w hSw; (try dsimp only at hSw); go_simp; try with_reducible rfl)
  (try simp only [Act.put, List.getElem_toArray, List.getElem_cons_zero, List.getElem_cons_succ, List.setIfInBounds_toArray, List.set_cons_zero, List.set_cons_succ])
  refine wpAnyH_ready (rs := [18]) (by kernel_rfl) (by simp) ?_
  refine AllReadyH.cons rfl (fun K hK => ?_) AllReadyH.nil
  go_simp
  refine (s_l7Scan lo hi _ _ _ _ h cs va x1 OD.out HBB.out HA.out.1 (by have := Row.lt RD.out.m; have := HSW.out; omega)).mono ?_
  rintro e w3 ⟨rfl, ho3, hc3⟩
  have R3 := Lib.hid (RD.out.chg hc3 HSW.out)
  have O3 := Lib.hid ho3
  clear ho3 hc3
  generalize hem : (ofC cs 1).isEmpty = em at *
  have HEM := Lib.hid hem; clear hem
  refine hK.out _ _ ⟨R3.out.m.cell 0, R3.out.m.cell 1, R3.out.m.cell 2, R3.out.m.cell 3, R3.out.v.cell 1, R3.out.v.cell 2, R3.out.v.cell 3⟩ (fun hHeld => ?_)
  clear hK K
  (try simp only [Act.put, List.getElem_toArray, List.getElem_cons_zero, List.getElem_cons_succ, List.setIfInBounds_toArray, List.set_cons_zero, List.set_cons_succ])
  refine wpAnyH_take (i := 19) (v := ?va19x59) rfl (by kernel_rfl) (by kernel_rfl) (by kernel_rfl) (fun _ _ _ h => h) (Or.inl ⟨by rfl, ?hy19x59⟩) (by assumption) ?rest19x59
  case hy19x59 => (intro w hSw; (try dsimp only at hSw); go_simp; try with_reducible rfl)
  (try simp only [Act.put, List.getElem_toArray, List.getElem_cons_zero, List.getElem_cons_succ, List.setIfInBounds_toArray, List.set_cons_zero, List.set_cons_succ])
  have M8 := Lib.hid (show Row _ w.heap.size 34 (m4 (.slice pa nf qa) (.slice pb nl qb) (.slice pc nr qc) (.slice pd nc qd)) from Row.putOther R3.out.m (m4 (.slice pa nf qa) (.slice pb nl qb) (.slice pc nr qc) (.slice pd nc qd)) (by omega : w.heap.size ≠ w.heap.size + 1 + 1))
  have V8 := Lib.hid (Row.putOther R3.out.v (m4 (.slice pa nf qa) (.slice pb nl qb) (.slice pc nr qc) (.slice pd nc qd)) (by omega : w.heap.size + 1 ≠ w.heap.size + 1 + 1))
  refine wpAnyH_ready (rs := [20]) (by kernel_rfl) (by simp) ?_
  refine AllReadyH.cons rfl (fun K hK => ?_) AllReadyH.nil
  refine wp_store_row 34 _ _ rfl (w.heap.size + 1 + 1) (m4 (.slice pa nf qa) (.slice pb nl qb) (.slice pc nr qc) (.slice pd nc qd)) rfl rfl 34 _ R3.out.r info_marking rfl (by simp [Value.oneCell']) ?_
  refine hK.out _ _ ⟨M8.out.cell 0, M8.out.cell 1, M8.out.cell 2, M8.out.cell 3, V8.out.cell 1, V8.out.cell 2, V8.out.cell 3⟩ (fun hHeld => ?_)
  clear hK K
  (try simp only [Act.put, List.getElem_toArray, List.getElem_cons_zero, List.getElem_cons_succ])
  refine wpAnyH_take (i := 21) (v := ?va21x60) rfl (by kernel_rfl) (by kernel_rfl) (by kernel_rfl) (fun _ _ _ h => h) (Or.inl ⟨by rfl, ?hy21x60⟩) (by assumption) ?rest21x60
  case hy21x60 => (intro w hSw; (try dsimp only at hSw); go_simp; try with_reducible rfl)
  (try simp only [Act.put, List.getElem_toArray, List.getElem_cons_zero, List.getElem_cons_succ, List.setIfInBounds_toArray, List.set_cons_zero, List.set_cons_succ])
  refine wpAnyH_done (by kernel_rfl) ?_ _
  clear hHeld M8 V8
  go_wp2_with fail
  refine bodyPost_ret (res_row_slot Try.results97 (Row.put R3.out.r (m4 (.slice pa nf qa) (.slice pb nl qb) (.slice pc nr qc) (.slice pd nc qd))) rfl rfl Try.underlying34 rfl info_marking) rfl ?_
  cases em
  · have hne : ofC cs 1 ≠ [] := by have := HEM.out; simpa using this
    rw [stepH1 rfl, stepC1 rfl, HE.out]
    refine ⟨_, _, _, _, rfl, ⟨rfl, rfl, rfl, rfl⟩, fun _ w'' hw'' => ?_, R3.out.l.thenB (below_setRow (Below.refl _ _) (by omega) _)⟩
    obtain ⟨l1, h1, k1, kl, kl1, kh1, kc, kb⟩ := O3.out.norm HLO.out
    rw [scanAt_yes hne] at kc
    have eqb : ∀ g, lo ≤ g → g < hi → w''.heap[g]? = w3.heap[g]? := fun g q0 q => (hw'' g (.inl ⟨q0, q⟩)).trans (setRow_other _ _ g _ (by have := HSW.out; omega))
    obtain ⟨us, hf⟩ := k1
    exact ⟨FamH.reads (us := us) (hf.keep fun g q1 q2 q3 => eqb g (by omega) (by omega)), Own.ints (owns_block kc fun g q => eqb g (by have := (owns_lt kc q).1; have := kb g q; omega) (kb g q).2)⟩
  · rw [HE.out]
    exact R3.out.no _ _ rfl rfl rfl rfl rfl
end Go.Proofs.Ytbmfkgfmibpkjaa
namespace Go.Proofs.Ytbmfkgfmibpkjaa
open Go.RowKit Ph
set_option maxHeartbeats 12800000 in
set_option maxRecDepth 100000 in
theorem s_l7Step2 (lo hi : Nat) (a b c d : Value) (h : H) (cs : List Int) (v : Mv) (put : Bool) (w : World) (hk : v.k = 2) (hO : OwnM w lo hi a b c d h cs) (hB : bothB h cs = true) (hl : lo ≤ hi) (hs : hi ≤ w.heap.size) :
    Calls Try.prog 97 #[mv a b c d, mo v, .bool put] w (StE (stepH h v) (stepC h cs v put) (stepOk h cs v) lo hi w) := by
  obtain ⟨⟨pa, qa, e1⟩, ⟨pb, qb, e2⟩, ⟨pc, qc, e3⟩, ⟨pd, qd, e4⟩⟩ := hO.shapes
  subst e1 e2 e3 e4
  obtain ⟨g, hlc, hcol⟩ := bothB_iff.1 hB
  have HBB := Lib.hid hB
  have hn12 := g.n
  have hr4 := g.rn
  have HG := Lib.hid g
  have b0 := (((below1 w (.cells (m4 (.slice pa h.f.length qa) (.slice pb h.l.length qb) (.slice pc h.r.length qc) (.slice pd cs.length qd)) 34)).alloc (by simp) (.cells (mo4 v) 38)).alloc (by simp; omega) (.cells (m4 nilS nilS nilS nilS) 34)).alloc (by simp; omega) (.cells (c3 nilS nilS nilS) 32)
  have R0 := Lib.hid (RwM.mk (v := v) (show RowM _ w.heap.size _ _ _ _ from (((Row.new w 34 (m4 (.slice pa h.f.length qa) (.slice pb h.l.length qb) (.slice pc h.r.length qc) (.slice pd cs.length qd))).alloc (.cells (mo4 v) 38)).alloc (.cells (m4 nilS nilS nilS nilS) 34)).alloc (.cells (c3 nilS nilS nilS) 32)) (((Row.new1 w _ _ _).alloc _).alloc _) ((Row.new2 w _ _ _ _).alloc _) (Chg.of_below (lo := lo) (hi := hi) b0) (by omega))
  have H0 := Lib.hid (show RowH _ (w.heap.size + 1 + 1 + 1) nilS nilS nilS from Row.new3 w (.cells (m4 (.slice pa h.f.length qa) (.slice pb h.l.length qb) (.slice pc h.r.length qc) (.slice pd cs.length qd)) 34) (.cells (mo4 v) 38) (.cells (m4 nilS nilS nilS nilS) 34) 32 (c3 nilS nilS nilS))
  have O0 := Lib.hid (hO.below b0)
  clear hO b0 hB g
  obtain ⟨vk, va, vb, vt⟩ := v
  try simp only
  generalize hnf : h.f.length = nf at *
  have HNF := Lib.hid hnf; clear hnf
  generalize hnl : h.l.length = nl at *
  have HNL := Lib.hid hnl; clear hnl
  generalize hnr : h.r.length = nr at *
  have HNR := Lib.hid hnr; clear hnr
  generalize hnc : cs.length = nc at *
  have HNC := Lib.hid hnc; clear hnc
  have HSW := Lib.hid hs; have HLO := Lib.hid hl; have HCOL := Lib.hid hcol; have HLCN : Hid (nc = nf) := hlc
  clear hs hl hcol hlc
  have v0 : (_ : World).cell? ⟨w.heap.size + 1, 0, none⟩ = some (.int .i64 vk) := R0.out.v.cell 0
  simp only at hk
  subst hk
  go_enter Try.func97, Try.ntmps97
  go_upto_region 5 with fail
  generalize ((((w.alloc (.cells (m4 (.slice pa nf qa) (.slice pb nl qb) (.slice pc nr qc) (.slice pd nc qd)) 34)).alloc (.cells (mo4 ⟨2, va, vb, vt⟩) 38)).alloc (.cells (m4 nilS nilS nilS nilS) 34)).alloc (.cells (c3 nilS nilS nilS) 32)) = w0 at *
  have v1 : w0.cell? ⟨w.heap.size + 1, 1, none⟩ = some (.int .i64 va) := R0.out.v.cell 1
  have v2 : w0.cell? ⟨w.heap.size + 1, 2, none⟩ = some (.int .i64 vb) := R0.out.v.cell 2
  have v3 : w0.cell? ⟨w.heap.size + 1, 3, none⟩ = some (.int .i64 vt) := R0.out.v.cell 3
  have m0 := R0.out.m.cell 0
  have m1 := R0.out.m.cell 1
  have m2 := R0.out.m.cell 2
  have m3 := R0.out.m.cell 3
  have HKE : Hid (stepOk h cs ⟨2, va, vb, vt⟩ = (liveB (reachL h.f h.r) va && refB (reachL h.f h.r) vt && setFOk h va vb vt)) := stK2 rfl
  have HLT : Hid (∀ z, refB (reachL h.f h.r) z = true → z < cs.length) := fun z q => by
    rcases refR_iff.1 q with r | ⟨r1, r2, _⟩
    · omega
    · rw [HNC.out, HLCN.out]; rw [HNF.out] at r2; omega
  go_wp2_with fail
  refine (s_l7Reached _ _ _ h va _ O0.out.heap HG.out).mono ?_
  rintro e w5 ⟨rfl, hb5⟩
  have R5 := Lib.hid (R0.out.below hb5); have O5 := Lib.hid (O0.out.below hb5); have H5 := Lib.hid (show RowH _ (w.heap.size + 1 + 1 + 1) nilS nilS nilS from Row.below H0.out hb5)
  clear hb5 R0 O0 H0 v0 v1 v2 v3 m0 m1 m2 m3
  generalize hx : liveB (reachL h.f h.r) va = x at *
  have HX := Lib.hid hx; clear hx
  have v3 : (_ : World).cell? ⟨w.heap.size + 1, 3, none⟩ = some (.int .i64 vt) := R5.out.v.cell 3
  have m0 := R5.out.m.cell 0
  have m1 := R5.out.m.cell 1
  have m2 := R5.out.m.cell 2
  cases x
  · have HE : Hid (stepOk h cs ⟨2, va, vb, vt⟩ = false) := by unfold Hid; rw [HKE.out]; simp
    go_upto_region 11 with fail
    go_wp2_with (first
      | (refine wl_loadM rfl _ rfl w.heap.size (.slice pa nf qa) (.slice pb nl qb) (.slice pc nr qc) (.slice pd nc qd) R5.out.m rfl ?_)
      | (refine wl_storeM rfl _ _ rfl (w.heap.size + 1 + 1) (.slice pa nf qa) (.slice pb nl qb) (.slice pc nr qc) (.slice pd nc qd) _ _ _ _ R5.out.r rfl rfl rfl rfl rfl rfl ?_))
    refine bodyPost_ret (res_row_slot Try.results97 (Row.put R5.out.r (m4 (.slice pa nf qa) (.slice pb nl qb) (.slice pc nr qc) (.slice pd nc qd))) rfl rfl Try.underlying34 rfl info_marking) rfl (R5.out.no _ _ rfl rfl rfl rfl HE.out)
  by_cases ht : vt = -1
  · subst ht
    have HREF : Hid (refB (reachL h.f h.r) (-1) = true) := rfl
    have R6 := R5; have O6 := O5; have H6 := H5
    clear R5 O5 H5 m0 m1 m2 v3
    have m0 := R6.out.m.cell 0
    have m1 := R6.out.m.cell 1
    have m2 := R6.out.m.cell 2
    have v1 : (_ : World).cell? ⟨w.heap.size + 1, 1, none⟩ = some (.int .i64 _) := R6.out.v.cell 1
    have v2 : (_ : World).cell? ⟨w.heap.size + 1, 2, none⟩ = some (.int .i64 _) := R6.out.v.cell 2
    have v3 : (_ : World).cell? ⟨w.heap.size + 1, 3, none⟩ = some (.int .i64 _) := R6.out.v.cell 3
    go_wp2_with fail
    refine (s_SetField _ _ _ h va vb (-1) _ O6.out.heap).mono ?_
    rintro e w7 ⟨a7, b7, c7, rfl, ho7, hb7⟩
    obtain ⟨⟨ra, ta, e1⟩, ⟨rb, tb, e2⟩, ⟨rc, tc, e3⟩⟩ := ho7.shapes
    subst e1 e2 e3
    have R7 := Lib.hid (R6.out.below hb7)
    have O7 := Lib.hid (O6.out.below hb7)
    have H7 := Lib.hid (show RowH _ (w.heap.size + 1 + 1 + 1) nilS nilS nilS from Row.below H6.out hb7)
    have SZ6 := Lib.hid (Row.lt H6.out)
    have HP7 := Lib.hid ho7
    clear ho7 hb7
    clear m0 m1 m2 v1 v2 v3
    generalize hok : setFOk h va vb (-1) = ok at *
    have HOK := Lib.hid hok; clear hok
    generalize hrf : (setF h va vb (-1)).f.length = rf at *
    generalize hrl : (setF h va vb (-1)).l.length = rl at *
    generalize hrr : (setF h va vb (-1)).r.length = rr at *
    clear hrf hrl hrr
    have hc8 := chgRow w7 (w.heap.size + 1 + 1 + 1) (c3 (.slice ra rf ta) (.slice rb rl tb) (.slice rc rr tc))
    have R8 : Hid (RwM w (w7.setRow (w.heap.size + 1 + 1 + 1) (c3 (.slice ra rf ta) (.slice rb rl tb) (.slice rc rr tc))) lo hi (.slice pa nf qa) (.slice pb nl qb) (.slice pc nr qc) (.slice pd nc qd) _) := ⟨Row.putOther R7.out.m _ (by omega), Row.putOther R7.out.v _ (by omega), Row.putOther R7.out.r _ (by omega), R7.out.l.thenB (below_setRow (Below.refl _ _) (by omega) _), R7.out.lw⟩
    have H8 := Lib.hid (show RowH _ (w.heap.size + 1 + 1 + 1) (.slice ra rf ta) (.slice rb rl tb) (.slice rc rr tc) from Row.put H7.out (c3 (.slice ra rf ta) (.slice rb rl tb) (.slice rc rr tc)))
    have O8 := Lib.hid (O7.out.chg hc8 (.inl (by have := HSW.out; omega)))
    have HP8 := Lib.hid (HP7.out.chg hc8 (.inr (by have := SZ6.out; omega)))
    clear hc8
    go_upto_region 13 with (refine wl_storeH rfl _ _ rfl (w.heap.size + 1 + 1 + 1) (.slice ra rf ta) (.slice rb rl tb) (.slice rc rr tc) nilS nilS nilS H7.out rfl rfl rfl rfl rfl ?_)
    clear R7 O7 H7 HP7 R6 O6 H6
    generalize w7.setRow (w.heap.size + 1 + 1 + 1) (c3 (.slice ra rf ta) (.slice rb rl tb) (.slice rc rr tc)) = w8 at *
    cases ok
    · have HE : Hid (stepOk h cs ⟨2, va, vb, (-1)⟩ = false) := by unfold Hid; rw [HKE.out]; simp
      go_upto_region 22 with fail
      go_wp2_with (first
        | (refine wl_loadM rfl _ rfl w.heap.size (.slice pa nf qa) (.slice pb nl qb) (.slice pc nr qc) (.slice pd nc qd) R8.out.m rfl ?_)
        | (refine wl_storeM rfl _ _ rfl (w.heap.size + 1 + 1) (.slice pa nf qa) (.slice pb nl qb) (.slice pc nr qc) (.slice pd nc qd) _ _ _ _ R8.out.r rfl rfl rfl rfl rfl rfl ?_))
      refine bodyPost_ret (res_row_slot Try.results97 (Row.put R8.out.r (m4 (.slice pa nf qa) (.slice pb nl qb) (.slice pc nr qc) (.slice pd nc qd))) rfl rfl Try.underlying34 rfl info_marking) rfl (R8.out.no _ _ rfl rfl rfl rfl HE.out)
    have HTL : Hid (((-1) : Int) < (cs.length : Int)) := HLT.out _ HREF.out
    have HE : Hid (stepOk h cs ⟨2, va, vb, (-1)⟩ = true) := by unfold Hid; rw [HKE.out, HREF.out]; simp
    obtain ⟨l1, h1, _, _, _, _, kc, kb⟩ := O8.out.norm HLO.out
    have T8 : Hid (StT w w8 lo hi _ _ (.slice pa nf qa) (.slice pb nl qb) (.slice pc nr qc) (.slice pd nc qd) (.slice ra rf ta) (.slice rb rl tb) (.slice rc rr tc) ⟨2, va, vb, (-1)⟩ _ cs) := ⟨R8.out, H8.out, HP8.out, by rw [← HNC.out]; rw [← HNC.out] at kc; exact kc, fun g q => (kb g q).2, by have := SZ6.out; have := HSW.out; omega⟩
    clear kc kb R8 H8
    have HHH : Hid (stepH h ⟨2, va, vb, (-1)⟩ = setF h va vb (-1)) := stepH2 rfl
    have HCC : Hid (stepC h cs ⟨2, va, vb, (-1)⟩ put = shade cs (if put = true then (-1) else (h.f.getD va.toNat []).getD vb.toNat 0)) := (stepC23 (.inl rfl)).trans (by rw [wOf2 rfl])
    obtain ⟨tn, fn, rfl, ebb, ht1', hf1', _⟩ := setF_facts HOK.out
    subst ebb
    rw [Int.toNat_natCast, Int.toNat_natCast] at HCC
    have HZR : Hid ((h.f.getD tn []).getD fn 0 < cs.length) := inR_get (fun z hz => by rw [HNC.out, HLCN.out, ← HNF.out]; exact (HG.out.field hz).imp id (fun q => ⟨q.1, q.2.1⟩)) hf1'
    rw [HNF.out] at ht1'
    have TD := Lib.hid (T8.out.below (below_drew (Below.refl w8.heap.size w8)))
    obtain ⟨fb, fo, epa, hcf⟩ := (O8.out.heap.f.below (below_drew (Below.refl w8.heap.size w8))).at' (by omega)
    obtain ⟨u, qu, huf⟩ := hcf tn ht1'
    obtain ⟨ua, uc, rfl⟩ := huf.shape
    obtain ⟨ub, uo, rfl, hcu⟩ := huf.at' (by omega)
    have qz := hcu fn hf1'
    have hm0 : w8.drew.cell? ⟨w.heap.size, 0, none⟩ = some (.slice (some ⟨fb, fo, none⟩) nf qa) := by rw [← epa]; exact TD.out.rw'.m.cell 0
    have hv1 : w8.drew.cell? ⟨w.heap.size + 1, 1, none⟩ = some (.int .i64 (tn : Int)) := TD.out.rw'.v.cell 1
    have hv2 : w8.drew.cell? ⟨w.heap.size + 1, 2, none⟩ = some (.int .i64 (fn : Int)) := TD.out.rw'.v.cell 2
    have j0 : (0 : Int) ≤ (tn : Int) := by omega
    have j1 : (tn : Int) < (nf : Int) := by omega
    have j2 : (0 : Int) ≤ (fn : Int) := by omega
    have j3 : (fn : Int) < ((h.f.getD tn []).length : Int) := by omega
    clear hcf huf hcu O8 HP8
    generalize (h.f.getD tn []).getD fn 0 = zz at *
    generalize (h.f.getD tn []).length = rl' at *
    go_upto_region 14 with fail
    refine wp_region_held_drew (S := (fun w' => w'.cell? ⟨w.heap.size, 0, none⟩ = some (.slice (some ⟨fb, fo, none⟩) nf qa) ∧ w'.cell? ⟨w.heap.size + 1, 1, none⟩ = some (.int .i64 (tn : Int)) ∧ w'.cell? ⟨w.heap.size + 1, 2, none⟩ = some (.int .i64 (fn : Int)) ∧ w'.cell? ⟨fb, fo + tn, none⟩ = some (.slice (some ⟨ub, uo, none⟩) rl' uc) ∧ w'.cell? ⟨ub, uo + fn, none⟩ = some (.int .i64 zz))) (by kernel_rfl) (⟨hm0, hv1, hv2, qu, qz⟩) (fun hHeld => ?_)
    generalize w8.drew = x8 at *
    refine wpAnyH_take (i := 0) (v := ?va0x61) rfl (by kernel_rfl) (by kernel_rfl) (by kernel_rfl) (fun _ _ _ h => h) (Or.inl ⟨by rfl, ?hy0x61⟩) (by assumption) ?rest0x61
    case hy0x61 => (intro w hSw; (try dsimp only at hSw); go_simp; try with_reducible rfl)
    (try simp only [Act.put, List.getElem_toArray, List.getElem_cons_zero, List.setIfInBounds_toArray, List.set_cons_zero, List.set_cons_succ])
    refine wpAnyH_take (i := 1) (v := ?va1x62) rfl (by kernel_rfl) (by kernel_rfl) (by kernel_rfl) (fun _ _ _ h => h) (Or.inl ⟨by rfl, ?hy1x62⟩) (by assumption) ?rest1x62
    case hy1x62 => (intro w hSw; (try dsimp only at hSw); go_simp; try with_reducible rfl)
    (try simp only [Act.put, List.getElem_toArray, List.getElem_cons_zero, List.getElem_cons_succ, List.setIfInBounds_toArray, List.set_cons_zero, List.set_cons_succ])
    refine wpAnyH_take (i := 2) (v := ?va2x63) rfl (by kernel_rfl) (by kernel_rfl) (by kernel_rfl) (fun _ _ _ h => h) (Or.inl ⟨by rfl, ?hy2x63⟩) (by assumption) ?rest2x63
    case hy2x63 => (intro w hSw; (try dsimp only at hSw); go_simp; try with_reducible rfl)
    (try simp only [Act.put, List.getElem_toArray, List.getElem_cons_zero, List.getElem_cons_succ, List.setIfInBounds_toArray, List.set_cons_zero, List.set_cons_succ])
    refine wpAnyH_take (i := 3) (v := ?va3x64) rfl (by kernel_rfl) (by kernel_rfl) (by kernel_rfl) (fun _ _ _ h => h) (Or.inl ⟨by rfl, ?hy3x64⟩) (by assumption) ?rest3x64
    case hy3x64 => (intro w hSw; (try dsimp only at hSw); go_simp; try with_reducible rfl)
    (try simp only [Act.put, List.getElem_toArray, List.getElem_cons_zero, List.getElem_cons_succ, List.setIfInBounds_toArray, List.set_cons_zero, List.set_cons_succ])
    refine wpAnyH_take (i := 4) (v := ?va4x65) rfl (by kernel_rfl) (by kernel_rfl) (by kernel_rfl) (fun _ _ _ h => h) (Or.inl ⟨by rfl, ?hy4x65⟩) (by assumption) ?rest4x65
    case hy4x65 => (intro w hSw; (try dsimp only at hSw); go_simp; try with_reducible rfl)
    (try simp only [Act.put, List.getElem_toArray, List.getElem_cons_zero, List.getElem_cons_succ, List.setIfInBounds_toArray, List.set_cons_zero, List.set_cons_succ])
    refine wpAnyH_take (i := 5) (v := ?va5x66) rfl (by kernel_rfl) (by kernel_rfl) (by kernel_rfl) (fun _ _ _ h => h) (Or.inl ⟨by rfl, ?hy5x66⟩) (by assumption) ?rest5x66
    case hy5x66 => (intro w hSw; (try dsimp only at hSw); go_simp; try with_reducible rfl)
    (try simp only [Act.put, List.getElem_toArray, List.getElem_cons_zero, List.getElem_cons_succ, List.setIfInBounds_toArray, List.set_cons_zero, List.set_cons_succ])
    refine wpAnyH_take (i := 6) (v := ?va6x67) rfl (by kernel_rfl) (by kernel_rfl) (by kernel_rfl) (fun _ _ _ h => h) (Or.inl ⟨by rfl, ?hy6x67⟩) (by assumption) ?rest6x67
    case hy6x67 => (intro w hSw; (try dsimp only at hSw); go_simp; try with_reducible rfl)
    (try simp only [Act.put, List.getElem_toArray, List.getElem_cons_zero, List.getElem_cons_succ, List.setIfInBounds_toArray, List.set_cons_zero, List.set_cons_succ])
    refine wpAnyH_take (i := 7) (v := ?va7x68) rfl (by kernel_rfl) (by kernel_rfl) (by kernel_rfl) (fun _ _ _ h => h) (Or.inl ⟨by rfl, ?hy7x68⟩) (by assumption) ?rest7x68
    case hy7x68 => (intro w hSw; (try dsimp only at hSw); go_simp; try with_reducible rfl)
    (try simp only [Act.put, List.getElem_toArray, List.getElem_cons_zero, List.getElem_cons_succ, List.setIfInBounds_toArray, List.set_cons_zero, List.set_cons_succ])
    refine wpAnyH_take (i := 8) (v := ?va8x69) rfl (by kernel_rfl) (by kernel_rfl) (by kernel_rfl) (fun _ _ _ h => h) (Or.inl ⟨by rfl, ?hy8x69⟩) (by assumption) ?rest8x69
    case hy8x69 => (intro w hSw; (try dsimp only at hSw); go_simp; try with_reducible rfl)
    (try simp only [Act.put, List.getElem_toArray, List.getElem_cons_zero, List.getElem_cons_succ, List.setIfInBounds_toArray, List.set_cons_zero, List.set_cons_succ])
    refine wpAnyH_take (i := 9) (v := ?va9x70) rfl (by kernel_rfl) (by kernel_rfl) (by kernel_rfl) (fun _ _ _ h => h) (Or.inl ⟨by rfl, ?hy9x70⟩) (by assumption) ?rest9x70
    case hy9x70 => (intro w hSw; (try dsimp only at hSw); go_simp; try with_reducible rfl)
    (try simp only [Act.put, List.getElem_toArray, List.getElem_cons_zero, List.getElem_cons_succ, List.setIfInBounds_toArray, List.set_cons_zero, List.set_cons_succ])
    refine wpAnyH_take (i := 10) (v := ?va10x71) rfl (by kernel_rfl) (by kernel_rfl) (by kernel_rfl) (fun _ _ _ h => h) (Or.inl ⟨by rfl, ?hy10x71⟩) (by assumption) ?rest10x71
    case hy10x71 => (intro w hSw; (try dsimp only at hSw); go_simp; try with_reducible rfl)
    (try simp only [Act.put, List.getElem_toArray, List.getElem_cons_zero, List.getElem_cons_succ, List.setIfInBounds_toArray, List.set_cons_zero, List.set_cons_succ])
    refine wpAnyH_take (i := 11) (v := ?va11x72) rfl (by kernel_rfl) (by kernel_rfl) (by kernel_rfl) (fun _ _ _ h => h) (Or.inl ⟨by rfl, ?hy11x72⟩) (by assumption) ?rest11x72
    case hy11x72 => (intro w hSw; (try dsimp only at hSw); go_simp; try with_reducible rfl)
    (try simp only [Act.put, List.getElem_toArray, List.getElem_cons_zero, List.getElem_cons_succ, List.setIfInBounds_toArray, List.set_cons_zero, List.set_cons_succ])
    refine wpAnyH_done (by kernel_rfl) ?_ _
    clear hHeld hm0 hv1 hv2 qu qz T8 j0 j1 j2 j3
    have T8 := TD
    clear TD
    generalize hput : put = pp at *
    have HPP := Lib.hid hput; clear hput
    have HZZ : Hid ((if pp = true then ((-1) : Int) else zz) < (cs.length : Int)) := by
      unfold Hid
      split
      · exact HTL.out
      · exact HZR.out
    cases pp
    · skip
      have HZ : Hid ((zz : Int) < (cs.length : Int)) := HZZ.out
      clear HZZ
      have m3 := T8.out.rw'.m.cell 3
      have v3 : (_ : World).cell? ⟨w.heap.size + 1, 3, none⟩ = some (.int .i64 (-1)) := T8.out.rw'.v.cell 3
      skip
      go_wp2_with fail
      skip
      refine (s_l6Shade (.slice pd nc qd) cs zz lo _ T8.out.col HZ.out).mono ?_
      rintro e w9 ⟨rfl, ho9, hg9⟩
      have T9 := Lib.hid (T8.out.setCol ho9 hg9)
      have T10 := Lib.hid T9.out.heap
      clear ho9 hg9 m3 v3
      have h0 := T9.out.hr.c0
      have h1 := T9.out.hr.c1
      have h2 := T9.out.hr.c2
      have m0 := T9.out.rw'.m.cell 0
      have m1 := T9.out.rw'.m.cell 1
      have m2 := T9.out.rw'.m.cell 2
      have f0 := T9.out.rw'.m.frozen 0
      have f1 := T9.out.rw'.m.frozen 1
      have f2 := T9.out.rw'.m.frozen 2
      go_upto_region 27 with fail
      clear h0 h1 h2 m0 m1 m2 f0 f1 f2
      generalize (((w9.setCell ⟨w.heap.size, 0, none⟩ (.slice ra rf ta)).setCell ⟨w.heap.size, 1, none⟩ (.slice rb rl tb)).setCell ⟨w.heap.size, 2, none⟩ (.slice rc rr tc)) = x10 at *
      go_wp2_with (first
        | (refine wl_loadM rfl _ rfl w.heap.size (.slice ra rf ta) (.slice rb rl tb) (.slice rc rr tc) (.slice pd nc qd) T10.out.rw'.m rfl ?_)
        | (refine wl_storeM rfl _ _ rfl (w.heap.size + 1 + 1) (.slice ra rf ta) (.slice rb rl tb) (.slice rc rr tc) (.slice pd nc qd) _ _ _ _ T10.out.rw'.r rfl rfl rfl rfl rfl rfl ?_))
      refine bodyPost_ret (res_row_slot Try.results97 (Row.put T10.out.rw'.r (m4 (.slice ra rf ta) (.slice rb rl tb) (.slice rc rr tc) (.slice pd nc qd))) rfl rfl Try.underlying34 rfl info_marking) rfl ?_
      rw [HHH.out, HCC.out, HE.out]
      refine ⟨_, _, _, _, rfl, ⟨rfl, rfl, rfl, rfl⟩, fun _ w'' hw'' => ⟨?_, ?_⟩, T10.out.rw'.l.thenB (below_setRow (Below.refl _ _) (by omega) _)⟩
      · have Q := T10.out.q
        obtain ⟨us, hf⟩ := T10.out.hp
        exact FamH.reads (us := us) (hf.keep fun g q1 _ _ => (hw'' g (by omega)).trans (setRow_other _ _ g _ (by omega)))
      · rw [if_neg (by decide)]
        exact Own.ints (owns_block T10.out.col fun g q => (hw'' g (.inl ⟨(owns_lt T10.out.col q).1, T10.out.cb g q⟩)).trans (setRow_other _ _ g _ (by have := T10.out.cb g q; have := T10.out.q; omega)))
    · skip
      have HZ : Hid (((-1) : Int) < (cs.length : Int)) := HZZ.out
      clear HZZ
      have m3 := T8.out.rw'.m.cell 3
      have v3 : (_ : World).cell? ⟨w.heap.size + 1, 3, none⟩ = some (.int .i64 (-1)) := T8.out.rw'.v.cell 3
      skip
      go_wp2_with fail
      skip
      refine (s_l6Shade (.slice pd nc qd) cs (-1) lo _ T8.out.col HZ.out).mono ?_
      rintro e w9 ⟨rfl, ho9, hg9⟩
      have T9 := Lib.hid (T8.out.setCol ho9 hg9)
      have T10 := Lib.hid T9.out.heap
      clear ho9 hg9 m3 v3
      have h0 := T9.out.hr.c0
      have h1 := T9.out.hr.c1
      have h2 := T9.out.hr.c2
      have m0 := T9.out.rw'.m.cell 0
      have m1 := T9.out.rw'.m.cell 1
      have m2 := T9.out.rw'.m.cell 2
      have f0 := T9.out.rw'.m.frozen 0
      have f1 := T9.out.rw'.m.frozen 1
      have f2 := T9.out.rw'.m.frozen 2
      go_upto_region 27 with fail
      clear h0 h1 h2 m0 m1 m2 f0 f1 f2
      generalize (((w9.setCell ⟨w.heap.size, 0, none⟩ (.slice ra rf ta)).setCell ⟨w.heap.size, 1, none⟩ (.slice rb rl tb)).setCell ⟨w.heap.size, 2, none⟩ (.slice rc rr tc)) = x10 at *
      go_wp2_with (first
        | (refine wl_loadM rfl _ rfl w.heap.size (.slice ra rf ta) (.slice rb rl tb) (.slice rc rr tc) (.slice pd nc qd) T10.out.rw'.m rfl ?_)
        | (refine wl_storeM rfl _ _ rfl (w.heap.size + 1 + 1) (.slice ra rf ta) (.slice rb rl tb) (.slice rc rr tc) (.slice pd nc qd) _ _ _ _ T10.out.rw'.r rfl rfl rfl rfl rfl rfl ?_))
      refine bodyPost_ret (res_row_slot Try.results97 (Row.put T10.out.rw'.r (m4 (.slice ra rf ta) (.slice rb rl tb) (.slice rc rr tc) (.slice pd nc qd))) rfl rfl Try.underlying34 rfl info_marking) rfl ?_
      rw [HHH.out, HCC.out, HE.out]
      refine ⟨_, _, _, _, rfl, ⟨rfl, rfl, rfl, rfl⟩, fun _ w'' hw'' => ⟨?_, ?_⟩, T10.out.rw'.l.thenB (below_setRow (Below.refl _ _) (by omega) _)⟩
      · have Q := T10.out.q
        obtain ⟨us, hf⟩ := T10.out.hp
        exact FamH.reads (us := us) (hf.keep fun g q1 _ _ => (hw'' g (by omega)).trans (setRow_other _ _ g _ (by omega)))
      · first | rw [if_pos rfl] | rw [if_pos trivial]
        exact Own.ints (owns_block T10.out.col fun g q => (hw'' g (.inl ⟨(owns_lt T10.out.col q).1, T10.out.cb g q⟩)).trans (setRow_other _ _ g _ (by have := T10.out.cb g q; have := T10.out.q; omega)))
  · have ht1 : (vt == -1) = false := by simpa using ht
    have ht2 : (vt != -1) = true := by simpa using ht
    have HRE : Hid (refB (reachL h.f h.r) vt = liveB (reachL h.f h.r) vt) := by unfold Hid refB; rw [decide_eq_false ht]; rfl
    clear ht
    go_wp2_with fail
    refine (s_l7Reached _ _ _ h vt _ O5.out.heap HG.out).mono ?_
    rintro e w6 ⟨rfl, hb6⟩
    have R6 := Lib.hid (R5.out.below hb6); have O6 := Lib.hid (O5.out.below hb6); have H6 := Lib.hid (show RowH _ (w.heap.size + 1 + 1 + 1) nilS nilS nilS from Row.below H5.out hb6)
    clear hb6 R5 O5 H5 m0 m1 m2 v3
    generalize hy : liveB (reachL h.f h.r) vt = y at *
    have HY := Lib.hid hy; clear hy
    cases y
    · have HE : Hid (stepOk h cs ⟨2, va, vb, vt⟩ = false) := by unfold Hid; rw [HKE.out, HRE.out]; simp
      go_upto_region 11 with fail
      go_wp2_with (first
        | (refine wl_loadM rfl _ rfl w.heap.size (.slice pa nf qa) (.slice pb nl qb) (.slice pc nr qc) (.slice pd nc qd) R6.out.m rfl ?_)
        | (refine wl_storeM rfl _ _ rfl (w.heap.size + 1 + 1) (.slice pa nf qa) (.slice pb nl qb) (.slice pc nr qc) (.slice pd nc qd) _ _ _ _ R6.out.r rfl rfl rfl rfl rfl rfl ?_))
      refine bodyPost_ret (res_row_slot Try.results97 (Row.put R6.out.r (m4 (.slice pa nf qa) (.slice pb nl qb) (.slice pc nr qc) (.slice pd nc qd))) rfl rfl Try.underlying34 rfl info_marking) rfl (R6.out.no _ _ rfl rfl rfl rfl HE.out)
    have HREF : Hid (refB (reachL h.f h.r) vt = true) := HRE.out
    have m0 := R6.out.m.cell 0
    have m1 := R6.out.m.cell 1
    have m2 := R6.out.m.cell 2
    have v1 : (_ : World).cell? ⟨w.heap.size + 1, 1, none⟩ = some (.int .i64 _) := R6.out.v.cell 1
    have v2 : (_ : World).cell? ⟨w.heap.size + 1, 2, none⟩ = some (.int .i64 _) := R6.out.v.cell 2
    have v3 : (_ : World).cell? ⟨w.heap.size + 1, 3, none⟩ = some (.int .i64 _) := R6.out.v.cell 3
    go_wp2_with fail
    refine (s_SetField _ _ _ h va vb vt _ O6.out.heap).mono ?_
    rintro e w7 ⟨a7, b7, c7, rfl, ho7, hb7⟩
    obtain ⟨⟨ra, ta, e1⟩, ⟨rb, tb, e2⟩, ⟨rc, tc, e3⟩⟩ := ho7.shapes
    subst e1 e2 e3
    have R7 := Lib.hid (R6.out.below hb7)
    have O7 := Lib.hid (O6.out.below hb7)
    have H7 := Lib.hid (show RowH _ (w.heap.size + 1 + 1 + 1) nilS nilS nilS from Row.below H6.out hb7)
    have SZ6 := Lib.hid (Row.lt H6.out)
    have HP7 := Lib.hid ho7
    clear ho7 hb7
    clear m0 m1 m2 v1 v2 v3
    generalize hok : setFOk h va vb vt = ok at *
    have HOK := Lib.hid hok; clear hok
    generalize hrf : (setF h va vb vt).f.length = rf at *
    generalize hrl : (setF h va vb vt).l.length = rl at *
    generalize hrr : (setF h va vb vt).r.length = rr at *
    clear hrf hrl hrr
    have hc8 := chgRow w7 (w.heap.size + 1 + 1 + 1) (c3 (.slice ra rf ta) (.slice rb rl tb) (.slice rc rr tc))
    have R8 : Hid (RwM w (w7.setRow (w.heap.size + 1 + 1 + 1) (c3 (.slice ra rf ta) (.slice rb rl tb) (.slice rc rr tc))) lo hi (.slice pa nf qa) (.slice pb nl qb) (.slice pc nr qc) (.slice pd nc qd) _) := ⟨Row.putOther R7.out.m _ (by omega), Row.putOther R7.out.v _ (by omega), Row.putOther R7.out.r _ (by omega), R7.out.l.thenB (below_setRow (Below.refl _ _) (by omega) _), R7.out.lw⟩
    have H8 := Lib.hid (show RowH _ (w.heap.size + 1 + 1 + 1) (.slice ra rf ta) (.slice rb rl tb) (.slice rc rr tc) from Row.put H7.out (c3 (.slice ra rf ta) (.slice rb rl tb) (.slice rc rr tc)))
    have O8 := Lib.hid (O7.out.chg hc8 (.inl (by have := HSW.out; omega)))
    have HP8 := Lib.hid (HP7.out.chg hc8 (.inr (by have := SZ6.out; omega)))
    clear hc8
    go_upto_region 13 with (refine wl_storeH rfl _ _ rfl (w.heap.size + 1 + 1 + 1) (.slice ra rf ta) (.slice rb rl tb) (.slice rc rr tc) nilS nilS nilS H7.out rfl rfl rfl rfl rfl ?_)
    clear R7 O7 H7 HP7 R6 O6 H6
    generalize w7.setRow (w.heap.size + 1 + 1 + 1) (c3 (.slice ra rf ta) (.slice rb rl tb) (.slice rc rr tc)) = w8 at *
    cases ok
    · have HE : Hid (stepOk h cs ⟨2, va, vb, vt⟩ = false) := by unfold Hid; rw [HKE.out]; simp
      go_upto_region 22 with fail
      go_wp2_with (first
        | (refine wl_loadM rfl _ rfl w.heap.size (.slice pa nf qa) (.slice pb nl qb) (.slice pc nr qc) (.slice pd nc qd) R8.out.m rfl ?_)
        | (refine wl_storeM rfl _ _ rfl (w.heap.size + 1 + 1) (.slice pa nf qa) (.slice pb nl qb) (.slice pc nr qc) (.slice pd nc qd) _ _ _ _ R8.out.r rfl rfl rfl rfl rfl rfl ?_))
      refine bodyPost_ret (res_row_slot Try.results97 (Row.put R8.out.r (m4 (.slice pa nf qa) (.slice pb nl qb) (.slice pc nr qc) (.slice pd nc qd))) rfl rfl Try.underlying34 rfl info_marking) rfl (R8.out.no _ _ rfl rfl rfl rfl HE.out)
    have HTL : Hid ((vt : Int) < (cs.length : Int)) := HLT.out _ HREF.out
    have HE : Hid (stepOk h cs ⟨2, va, vb, vt⟩ = true) := by unfold Hid; rw [HKE.out, HREF.out]; simp
    obtain ⟨l1, h1, _, _, _, _, kc, kb⟩ := O8.out.norm HLO.out
    have T8 : Hid (StT w w8 lo hi _ _ (.slice pa nf qa) (.slice pb nl qb) (.slice pc nr qc) (.slice pd nc qd) (.slice ra rf ta) (.slice rb rl tb) (.slice rc rr tc) ⟨2, va, vb, vt⟩ _ cs) := ⟨R8.out, H8.out, HP8.out, by rw [← HNC.out]; rw [← HNC.out] at kc; exact kc, fun g q => (kb g q).2, by have := SZ6.out; have := HSW.out; omega⟩
    clear kc kb R8 H8
    have HHH : Hid (stepH h ⟨2, va, vb, vt⟩ = setF h va vb vt) := stepH2 rfl
    have HCC : Hid (stepC h cs ⟨2, va, vb, vt⟩ put = shade cs (if put = true then vt else (h.f.getD va.toNat []).getD vb.toNat 0)) := (stepC23 (.inl rfl)).trans (by rw [wOf2 rfl])
    obtain ⟨tn, fn, rfl, ebb, ht1', hf1', _⟩ := setF_facts HOK.out
    subst ebb
    rw [Int.toNat_natCast, Int.toNat_natCast] at HCC
    have HZR : Hid ((h.f.getD tn []).getD fn 0 < cs.length) := inR_get (fun z hz => by rw [HNC.out, HLCN.out, ← HNF.out]; exact (HG.out.field hz).imp id (fun q => ⟨q.1, q.2.1⟩)) hf1'
    rw [HNF.out] at ht1'
    have TD := Lib.hid (T8.out.below (below_drew (Below.refl w8.heap.size w8)))
    obtain ⟨fb, fo, epa, hcf⟩ := (O8.out.heap.f.below (below_drew (Below.refl w8.heap.size w8))).at' (by omega)
    obtain ⟨u, qu, huf⟩ := hcf tn ht1'
    obtain ⟨ua, uc, rfl⟩ := huf.shape
    obtain ⟨ub, uo, rfl, hcu⟩ := huf.at' (by omega)
    have qz := hcu fn hf1'
    have hm0 : w8.drew.cell? ⟨w.heap.size, 0, none⟩ = some (.slice (some ⟨fb, fo, none⟩) nf qa) := by rw [← epa]; exact TD.out.rw'.m.cell 0
    have hv1 : w8.drew.cell? ⟨w.heap.size + 1, 1, none⟩ = some (.int .i64 (tn : Int)) := TD.out.rw'.v.cell 1
    have hv2 : w8.drew.cell? ⟨w.heap.size + 1, 2, none⟩ = some (.int .i64 (fn : Int)) := TD.out.rw'.v.cell 2
    have j0 : (0 : Int) ≤ (tn : Int) := by omega
    have j1 : (tn : Int) < (nf : Int) := by omega
    have j2 : (0 : Int) ≤ (fn : Int) := by omega
    have j3 : (fn : Int) < ((h.f.getD tn []).length : Int) := by omega
    clear hcf huf hcu O8 HP8
    generalize (h.f.getD tn []).getD fn 0 = zz at *
    generalize (h.f.getD tn []).length = rl' at *
    go_upto_region 14 with fail
    refine wp_region_held_drew (S := (fun w' => w'.cell? ⟨w.heap.size, 0, none⟩ = some (.slice (some ⟨fb, fo, none⟩) nf qa) ∧ w'.cell? ⟨w.heap.size + 1, 1, none⟩ = some (.int .i64 (tn : Int)) ∧ w'.cell? ⟨w.heap.size + 1, 2, none⟩ = some (.int .i64 (fn : Int)) ∧ w'.cell? ⟨fb, fo + tn, none⟩ = some (.slice (some ⟨ub, uo, none⟩) rl' uc) ∧ w'.cell? ⟨ub, uo + fn, none⟩ = some (.int .i64 zz))) (by kernel_rfl) (⟨hm0, hv1, hv2, qu, qz⟩) (fun hHeld => ?_)
    generalize w8.drew = x8 at *
    refine wpAnyH_take (i := 0) (v := ?va0x73) rfl (by kernel_rfl) (by kernel_rfl) (by kernel_rfl) (fun _ _ _ h => h) (Or.inl ⟨by rfl, ?hy0x73⟩) (by assumption) ?rest0x73
    case hy0x73 => (intro w hSw; (try dsimp only at hSw); go_simp; try with_reducible rfl)
    (try simp only [Act.put, List.getElem_toArray, List.getElem_cons_zero, List.setIfInBounds_toArray, List.set_cons_zero, List.set_cons_succ])
    refine wpAnyH_take (i := 1) (v := ?va1x74) rfl (by kernel_rfl) (by kernel_rfl) (by kernel_rfl) (fun _ _ _ h => h) (Or.inl ⟨by rfl, ?hy1x74⟩) (by assumption) ?rest1x74
    case hy1x74 => (intro w hSw; (try dsimp only at hSw); go_simp; try with_reducible rfl)
    (try simp only [Act.put, List.getElem_toArray, List.getElem_cons_zero, List.getElem_cons_succ, List.setIfInBounds_toArray, List.set_cons_zero, List.set_cons_succ])
    refine wpAnyH_take (i := 2) (v := ?va2x75) rfl (by kernel_rfl) (by kernel_rfl) (by kernel_rfl) (fun _ _ _ h => h) (Or.inl ⟨by rfl, ?hy2x75⟩) (by assumption) ?rest2x75
    case hy2x75 => (intro w hSw; (try dsimp only at hSw); go_simp; try with_reducible rfl)
    (try simp only [Act.put, List.getElem_toArray, List.getElem_cons_zero, List.getElem_cons_succ, List.setIfInBounds_toArray, List.set_cons_zero, List.set_cons_succ])
    refine wpAnyH_take (i := 3) (v := ?va3x76) rfl (by kernel_rfl) (by kernel_rfl) (by kernel_rfl) (fun _ _ _ h => h) (Or.inl ⟨by rfl, ?hy3x76⟩) (by assumption) ?rest3x76
    case hy3x76 => (intro w hSw; (try dsimp only at hSw); go_simp; try with_reducible rfl)
    (try simp only [Act.put, List.getElem_toArray, List.getElem_cons_zero, List.getElem_cons_succ, List.setIfInBounds_toArray, List.set_cons_zero, List.set_cons_succ])
    refine wpAnyH_take (i := 4) (v := ?va4x77) rfl (by kernel_rfl) (by kernel_rfl) (by kernel_rfl) (fun _ _ _ h => h) (Or.inl ⟨by rfl, ?hy4x77⟩) (by assumption) ?rest4x77
    case hy4x77 => (intro w hSw; (try dsimp only at hSw); go_simp; try with_reducible rfl)
    (try simp only [Act.put, List.getElem_toArray, List.getElem_cons_zero, List.getElem_cons_succ, List.setIfInBounds_toArray, List.set_cons_zero, List.set_cons_succ])
    refine wpAnyH_take (i := 5) (v := ?va5x78) rfl (by kernel_rfl) (by kernel_rfl) (by kernel_rfl) (fun _ _ _ h => h) (Or.inl ⟨by rfl, ?hy5x78⟩) (by assumption) ?rest5x78
    case hy5x78 => (intro w hSw; (try dsimp only at hSw); go_simp; try with_reducible rfl)
    (try simp only [Act.put, List.getElem_toArray, List.getElem_cons_zero, List.getElem_cons_succ, List.setIfInBounds_toArray, List.set_cons_zero, List.set_cons_succ])
    refine wpAnyH_take (i := 6) (v := ?va6x79) rfl (by kernel_rfl) (by kernel_rfl) (by kernel_rfl) (fun _ _ _ h => h) (Or.inl ⟨by rfl, ?hy6x79⟩) (by assumption) ?rest6x79
    case hy6x79 => (intro w hSw; (try dsimp only at hSw); go_simp; try with_reducible rfl)
    (try simp only [Act.put, List.getElem_toArray, List.getElem_cons_zero, List.getElem_cons_succ, List.setIfInBounds_toArray, List.set_cons_zero, List.set_cons_succ])
    refine wpAnyH_take (i := 7) (v := ?va7x80) rfl (by kernel_rfl) (by kernel_rfl) (by kernel_rfl) (fun _ _ _ h => h) (Or.inl ⟨by rfl, ?hy7x80⟩) (by assumption) ?rest7x80
    case hy7x80 => (intro w hSw; (try dsimp only at hSw); go_simp; try with_reducible rfl)
    (try simp only [Act.put, List.getElem_toArray, List.getElem_cons_zero, List.getElem_cons_succ, List.setIfInBounds_toArray, List.set_cons_zero, List.set_cons_succ])
    refine wpAnyH_take (i := 8) (v := ?va8x81) rfl (by kernel_rfl) (by kernel_rfl) (by kernel_rfl) (fun _ _ _ h => h) (Or.inl ⟨by rfl, ?hy8x81⟩) (by assumption) ?rest8x81
    case hy8x81 => (intro w hSw; (try dsimp only at hSw); go_simp; try with_reducible rfl)
    (try simp only [Act.put, List.getElem_toArray, List.getElem_cons_zero, List.getElem_cons_succ, List.setIfInBounds_toArray, List.set_cons_zero, List.set_cons_succ])
    refine wpAnyH_take (i := 9) (v := ?va9x82) rfl (by kernel_rfl) (by kernel_rfl) (by kernel_rfl) (fun _ _ _ h => h) (Or.inl ⟨by rfl, ?hy9x82⟩) (by assumption) ?rest9x82
    case hy9x82 => (intro w hSw; (try dsimp only at hSw); go_simp; try with_reducible rfl)
    (try simp only [Act.put, List.getElem_toArray, List.getElem_cons_zero, List.getElem_cons_succ, List.setIfInBounds_toArray, List.set_cons_zero, List.set_cons_succ])
    refine wpAnyH_take (i := 10) (v := ?va10x83) rfl (by kernel_rfl) (by kernel_rfl) (by kernel_rfl) (fun _ _ _ h => h) (Or.inl ⟨by rfl, ?hy10x83⟩) (by assumption) ?rest10x83
    case hy10x83 => (intro w hSw; (try dsimp only at hSw); go_simp; try with_reducible rfl)
    (try simp only [Act.put, List.getElem_toArray, List.getElem_cons_zero, List.getElem_cons_succ, List.setIfInBounds_toArray, List.set_cons_zero, List.set_cons_succ])
    refine wpAnyH_take (i := 11) (v := ?va11x84) rfl (by kernel_rfl) (by kernel_rfl) (by kernel_rfl) (fun _ _ _ h => h) (Or.inl ⟨by rfl, ?hy11x84⟩) (by assumption) ?rest11x84
    case hy11x84 => (intro w hSw; (try dsimp only at hSw); go_simp; try with_reducible rfl)
    (try simp only [Act.put, List.getElem_toArray, List.getElem_cons_zero, List.getElem_cons_succ, List.setIfInBounds_toArray, List.set_cons_zero, List.set_cons_succ])
    refine wpAnyH_done (by kernel_rfl) ?_ _
    clear hHeld hm0 hv1 hv2 qu qz T8 j0 j1 j2 j3
    have T8 := TD
    clear TD
    generalize hput : put = pp at *
    have HPP := Lib.hid hput; clear hput
    have HZZ : Hid ((if pp = true then (vt : Int) else zz) < (cs.length : Int)) := by
      unfold Hid
      split
      · exact HTL.out
      · exact HZR.out
    cases pp
    · skip
      have HZ : Hid ((zz : Int) < (cs.length : Int)) := HZZ.out
      clear HZZ
      have m3 := T8.out.rw'.m.cell 3
      have v3 : (_ : World).cell? ⟨w.heap.size + 1, 3, none⟩ = some (.int .i64 vt) := T8.out.rw'.v.cell 3
      skip
      go_wp2_with fail
      skip
      refine (s_l6Shade (.slice pd nc qd) cs zz lo _ T8.out.col HZ.out).mono ?_
      rintro e w9 ⟨rfl, ho9, hg9⟩
      have T9 := Lib.hid (T8.out.setCol ho9 hg9)
      have T10 := Lib.hid T9.out.heap
      clear ho9 hg9 m3 v3
      have h0 := T9.out.hr.c0
      have h1 := T9.out.hr.c1
      have h2 := T9.out.hr.c2
      have m0 := T9.out.rw'.m.cell 0
      have m1 := T9.out.rw'.m.cell 1
      have m2 := T9.out.rw'.m.cell 2
      have f0 := T9.out.rw'.m.frozen 0
      have f1 := T9.out.rw'.m.frozen 1
      have f2 := T9.out.rw'.m.frozen 2
      go_upto_region 27 with fail
      clear h0 h1 h2 m0 m1 m2 f0 f1 f2
      generalize (((w9.setCell ⟨w.heap.size, 0, none⟩ (.slice ra rf ta)).setCell ⟨w.heap.size, 1, none⟩ (.slice rb rl tb)).setCell ⟨w.heap.size, 2, none⟩ (.slice rc rr tc)) = x10 at *
      go_wp2_with (first
        | (refine wl_loadM rfl _ rfl w.heap.size (.slice ra rf ta) (.slice rb rl tb) (.slice rc rr tc) (.slice pd nc qd) T10.out.rw'.m rfl ?_)
        | (refine wl_storeM rfl _ _ rfl (w.heap.size + 1 + 1) (.slice ra rf ta) (.slice rb rl tb) (.slice rc rr tc) (.slice pd nc qd) _ _ _ _ T10.out.rw'.r rfl rfl rfl rfl rfl rfl ?_))
      refine bodyPost_ret (res_row_slot Try.results97 (Row.put T10.out.rw'.r (m4 (.slice ra rf ta) (.slice rb rl tb) (.slice rc rr tc) (.slice pd nc qd))) rfl rfl Try.underlying34 rfl info_marking) rfl ?_
      rw [HHH.out, HCC.out, HE.out]
      refine ⟨_, _, _, _, rfl, ⟨rfl, rfl, rfl, rfl⟩, fun _ w'' hw'' => ⟨?_, ?_⟩, T10.out.rw'.l.thenB (below_setRow (Below.refl _ _) (by omega) _)⟩
      · have Q := T10.out.q
        obtain ⟨us, hf⟩ := T10.out.hp
        exact FamH.reads (us := us) (hf.keep fun g q1 _ _ => (hw'' g (by omega)).trans (setRow_other _ _ g _ (by omega)))
      · rw [if_neg (by decide)]
        exact Own.ints (owns_block T10.out.col fun g q => (hw'' g (.inl ⟨(owns_lt T10.out.col q).1, T10.out.cb g q⟩)).trans (setRow_other _ _ g _ (by have := T10.out.cb g q; have := T10.out.q; omega)))
    · skip
      have HZ : Hid ((vt : Int) < (cs.length : Int)) := HZZ.out
      clear HZZ
      have m3 := T8.out.rw'.m.cell 3
      have v3 : (_ : World).cell? ⟨w.heap.size + 1, 3, none⟩ = some (.int .i64 vt) := T8.out.rw'.v.cell 3
      skip
      go_wp2_with fail
      skip
      refine (s_l6Shade (.slice pd nc qd) cs vt lo _ T8.out.col HZ.out).mono ?_
      rintro e w9 ⟨rfl, ho9, hg9⟩
      have T9 := Lib.hid (T8.out.setCol ho9 hg9)
      have T10 := Lib.hid T9.out.heap
      clear ho9 hg9 m3 v3
      have h0 := T9.out.hr.c0
      have h1 := T9.out.hr.c1
      have h2 := T9.out.hr.c2
      have m0 := T9.out.rw'.m.cell 0
      have m1 := T9.out.rw'.m.cell 1
      have m2 := T9.out.rw'.m.cell 2
      have f0 := T9.out.rw'.m.frozen 0
      have f1 := T9.out.rw'.m.frozen 1
      have f2 := T9.out.rw'.m.frozen 2
      go_upto_region 27 with fail
      clear h0 h1 h2 m0 m1 m2 f0 f1 f2
      generalize (((w9.setCell ⟨w.heap.size, 0, none⟩ (.slice ra rf ta)).setCell ⟨w.heap.size, 1, none⟩ (.slice rb rl tb)).setCell ⟨w.heap.size, 2, none⟩ (.slice rc rr tc)) = x10 at *
      go_wp2_with (first
        | (refine wl_loadM rfl _ rfl w.heap.size (.slice ra rf ta) (.slice rb rl tb) (.slice rc rr tc) (.slice pd nc qd) T10.out.rw'.m rfl ?_)
        | (refine wl_storeM rfl _ _ rfl (w.heap.size + 1 + 1) (.slice ra rf ta) (.slice rb rl tb) (.slice rc rr tc) (.slice pd nc qd) _ _ _ _ T10.out.rw'.r rfl rfl rfl rfl rfl rfl ?_))
      refine bodyPost_ret (res_row_slot Try.results97 (Row.put T10.out.rw'.r (m4 (.slice ra rf ta) (.slice rb rl tb) (.slice rc rr tc) (.slice pd nc qd))) rfl rfl Try.underlying34 rfl info_marking) rfl ?_
      rw [HHH.out, HCC.out, HE.out]
      refine ⟨_, _, _, _, rfl, ⟨rfl, rfl, rfl, rfl⟩, fun _ w'' hw'' => ⟨?_, ?_⟩, T10.out.rw'.l.thenB (below_setRow (Below.refl _ _) (by omega) _)⟩
      · have Q := T10.out.q
        obtain ⟨us, hf⟩ := T10.out.hp
        exact FamH.reads (us := us) (hf.keep fun g q1 _ _ => (hw'' g (by omega)).trans (setRow_other _ _ g _ (by omega)))
      · first | rw [if_pos rfl] | rw [if_pos trivial]
        exact Own.ints (owns_block T10.out.col fun g q => (hw'' g (.inl ⟨(owns_lt T10.out.col q).1, T10.out.cb g q⟩)).trans (setRow_other _ _ g _ (by have := T10.out.cb g q; have := T10.out.q; omega)))
end Go.Proofs.Ytbmfkgfmibpkjaa
namespace Go.Proofs.Ytbmfkgfmibpkjaa
open Go.RowKit Ph
set_option maxHeartbeats 12800000 in
set_option maxRecDepth 100000 in
theorem s_l7Step3 (lo hi : Nat) (a b c d : Value) (h : H) (cs : List Int) (v : Mv) (put : Bool) (w : World) (hk : v.k = 3) (hO : OwnM w lo hi a b c d h cs) (hB : bothB h cs = true) (hl : lo ≤ hi) (hs : hi ≤ w.heap.size) :
    Calls Try.prog 97 #[mv a b c d, mo v, .bool put] w (StE (stepH h v) (stepC h cs v put) (stepOk h cs v) lo hi w) := by
  obtain ⟨⟨pa, qa, e1⟩, ⟨pb, qb, e2⟩, ⟨pc, qc, e3⟩, ⟨pd, qd, e4⟩⟩ := hO.shapes
  subst e1 e2 e3 e4
  obtain ⟨g, hlc, hcol⟩ := bothB_iff.1 hB
  have HBB := Lib.hid hB
  have hn12 := g.n
  have hr4 := g.rn
  have HG := Lib.hid g
  have b0 := (((below1 w (.cells (m4 (.slice pa h.f.length qa) (.slice pb h.l.length qb) (.slice pc h.r.length qc) (.slice pd cs.length qd)) 34)).alloc (by simp) (.cells (mo4 v) 38)).alloc (by simp; omega) (.cells (m4 nilS nilS nilS nilS) 34)).alloc (by simp; omega) (.cells (c3 nilS nilS nilS) 32)
  have R0 := Lib.hid (RwM.mk (v := v) (show RowM _ w.heap.size _ _ _ _ from (((Row.new w 34 (m4 (.slice pa h.f.length qa) (.slice pb h.l.length qb) (.slice pc h.r.length qc) (.slice pd cs.length qd))).alloc (.cells (mo4 v) 38)).alloc (.cells (m4 nilS nilS nilS nilS) 34)).alloc (.cells (c3 nilS nilS nilS) 32)) (((Row.new1 w _ _ _).alloc _).alloc _) ((Row.new2 w _ _ _ _).alloc _) (Chg.of_below (lo := lo) (hi := hi) b0) (by omega))
  have H0 := Lib.hid (show RowH _ (w.heap.size + 1 + 1 + 1) nilS nilS nilS from Row.new3 w (.cells (m4 (.slice pa h.f.length qa) (.slice pb h.l.length qb) (.slice pc h.r.length qc) (.slice pd cs.length qd)) 34) (.cells (mo4 v) 38) (.cells (m4 nilS nilS nilS nilS) 34) 32 (c3 nilS nilS nilS))
  have O0 := Lib.hid (hO.below b0)
  clear hO b0 hB g
  obtain ⟨vk, va, vb, vt⟩ := v
  try simp only
  generalize hnf : h.f.length = nf at *
  have HNF := Lib.hid hnf; clear hnf
  generalize hnl : h.l.length = nl at *
  have HNL := Lib.hid hnl; clear hnl
  generalize hnr : h.r.length = nr at *
  have HNR := Lib.hid hnr; clear hnr
  generalize hnc : cs.length = nc at *
  have HNC := Lib.hid hnc; clear hnc
  have HSW := Lib.hid hs; have HLO := Lib.hid hl; have HCOL := Lib.hid hcol; have HLCN : Hid (nc = nf) := hlc
  clear hs hl hcol hlc
  have v0 : (_ : World).cell? ⟨w.heap.size + 1, 0, none⟩ = some (.int .i64 vk) := R0.out.v.cell 0
  simp only at hk
  subst hk
  go_enter Try.func97, Try.ntmps97
  go_upto_region 5 with fail
  generalize ((((w.alloc (.cells (m4 (.slice pa nf qa) (.slice pb nl qb) (.slice pc nr qc) (.slice pd nc qd)) 34)).alloc (.cells (mo4 ⟨3, va, vb, vt⟩) 38)).alloc (.cells (m4 nilS nilS nilS nilS) 34)).alloc (.cells (c3 nilS nilS nilS) 32)) = w0 at *
  have v1 : w0.cell? ⟨w.heap.size + 1, 1, none⟩ = some (.int .i64 va) := R0.out.v.cell 1
  have v2 : w0.cell? ⟨w.heap.size + 1, 2, none⟩ = some (.int .i64 vb) := R0.out.v.cell 2
  have v3 : w0.cell? ⟨w.heap.size + 1, 3, none⟩ = some (.int .i64 vt) := R0.out.v.cell 3
  have m0 := R0.out.m.cell 0
  have m1 := R0.out.m.cell 1
  have m2 := R0.out.m.cell 2
  have m3 := R0.out.m.cell 3
  have HKE : Hid (stepOk h cs ⟨3, va, vb, vt⟩ = (decide (vb = 0) && refB (reachL h.f h.r) vt && setROk h va vt)) := stK3 rfl
  have HLT : Hid (∀ z, refB (reachL h.f h.r) z = true → z < cs.length) := fun z q => by
    rcases refR_iff.1 q with r | ⟨r1, r2, _⟩
    · omega
    · rw [HNC.out, HLCN.out]; rw [HNF.out] at r2; omega
  have R5 := R0; have O5 := O0; have H5 := H0
  clear R0 O0 H0 v0 v1 m3
  by_cases hb : vb = 0
  rotate_left
  · have hb1 : (vb == 0) = false := by simpa using hb
    have hb2 : (vb != 0) = true := by simpa using hb
    have HE : Hid (stepOk h cs ⟨3, va, vb, vt⟩ = false) := by unfold Hid; rw [HKE.out, decide_eq_false hb]; rfl
    clear hb
    go_upto_region 17 with fail
    go_wp2_with (first
      | (refine wl_loadM rfl _ rfl w.heap.size (.slice pa nf qa) (.slice pb nl qb) (.slice pc nr qc) (.slice pd nc qd) R5.out.m rfl ?_)
      | (refine wl_storeM rfl _ _ rfl (w.heap.size + 1 + 1) (.slice pa nf qa) (.slice pb nl qb) (.slice pc nr qc) (.slice pd nc qd) _ _ _ _ R5.out.r rfl rfl rfl rfl rfl rfl ?_))
    refine bodyPost_ret (res_row_slot Try.results97 (Row.put R5.out.r (m4 (.slice pa nf qa) (.slice pb nl qb) (.slice pc nr qc) (.slice pd nc qd))) rfl rfl Try.underlying34 rfl info_marking) rfl (R5.out.no _ _ rfl rfl rfl rfl HE.out)
  subst hb
  by_cases ht : vt = -1
  · subst ht
    have HREF : Hid (refB (reachL h.f h.r) (-1) = true) := rfl
    have R6 := R5; have O6 := O5; have H6 := H5
    clear R5 O5 H5 m0 m1 m2 v3 v2
    have m0 := R6.out.m.cell 0
    have m1 := R6.out.m.cell 1
    have m2 := R6.out.m.cell 2
    have v1 : (_ : World).cell? ⟨w.heap.size + 1, 1, none⟩ = some (.int .i64 _) := R6.out.v.cell 1
    have v2 : (_ : World).cell? ⟨w.heap.size + 1, 2, none⟩ = some (.int .i64 _) := R6.out.v.cell 2
    have v3 : (_ : World).cell? ⟨w.heap.size + 1, 3, none⟩ = some (.int .i64 _) := R6.out.v.cell 3
    go_wp2_with fail
    refine (s_SetRoot _ _ _ h va (-1) _ O6.out.heap).mono ?_
    rintro e w7 ⟨a7, b7, c7, rfl, ho7, hb7⟩
    obtain ⟨⟨ra, ta, e1⟩, ⟨rb, tb, e2⟩, ⟨rc, tc, e3⟩⟩ := ho7.shapes
    subst e1 e2 e3
    have R7 := Lib.hid (R6.out.below hb7)
    have O7 := Lib.hid (O6.out.below hb7)
    have H7 := Lib.hid (show RowH _ (w.heap.size + 1 + 1 + 1) nilS nilS nilS from Row.below H6.out hb7)
    have SZ6 := Lib.hid (Row.lt H6.out)
    have HP7 := Lib.hid ho7
    clear ho7 hb7
    clear m0 m1 m2 v1 v2 v3
    generalize hok : setROk h va (-1) = ok at *
    have HOK := Lib.hid hok; clear hok
    generalize hrf : (setR h va (-1)).f.length = rf at *
    generalize hrl : (setR h va (-1)).l.length = rl at *
    generalize hrr : (setR h va (-1)).r.length = rr at *
    clear hrf hrl hrr
    have hc8 := chgRow w7 (w.heap.size + 1 + 1 + 1) (c3 (.slice ra rf ta) (.slice rb rl tb) (.slice rc rr tc))
    have R8 : Hid (RwM w (w7.setRow (w.heap.size + 1 + 1 + 1) (c3 (.slice ra rf ta) (.slice rb rl tb) (.slice rc rr tc))) lo hi (.slice pa nf qa) (.slice pb nl qb) (.slice pc nr qc) (.slice pd nc qd) _) := ⟨Row.putOther R7.out.m _ (by omega), Row.putOther R7.out.v _ (by omega), Row.putOther R7.out.r _ (by omega), R7.out.l.thenB (below_setRow (Below.refl _ _) (by omega) _), R7.out.lw⟩
    have H8 := Lib.hid (show RowH _ (w.heap.size + 1 + 1 + 1) (.slice ra rf ta) (.slice rb rl tb) (.slice rc rr tc) from Row.put H7.out (c3 (.slice ra rf ta) (.slice rb rl tb) (.slice rc rr tc)))
    have O8 := Lib.hid (O7.out.chg hc8 (.inl (by have := HSW.out; omega)))
    have HP8 := Lib.hid (HP7.out.chg hc8 (.inr (by have := SZ6.out; omega)))
    clear hc8
    go_upto_region 19 with (refine wl_storeH rfl _ _ rfl (w.heap.size + 1 + 1 + 1) (.slice ra rf ta) (.slice rb rl tb) (.slice rc rr tc) nilS nilS nilS H7.out rfl rfl rfl rfl rfl ?_)
    clear R7 O7 H7 HP7 R6 O6 H6
    generalize w7.setRow (w.heap.size + 1 + 1 + 1) (c3 (.slice ra rf ta) (.slice rb rl tb) (.slice rc rr tc)) = w8 at *
    cases ok
    · have HE : Hid (stepOk h cs ⟨3, va, 0, (-1)⟩ = false) := by unfold Hid; rw [HKE.out]; simp
      go_upto_region 22 with fail
      go_wp2_with (first
        | (refine wl_loadM rfl _ rfl w.heap.size (.slice pa nf qa) (.slice pb nl qb) (.slice pc nr qc) (.slice pd nc qd) R8.out.m rfl ?_)
        | (refine wl_storeM rfl _ _ rfl (w.heap.size + 1 + 1) (.slice pa nf qa) (.slice pb nl qb) (.slice pc nr qc) (.slice pd nc qd) _ _ _ _ R8.out.r rfl rfl rfl rfl rfl rfl ?_))
      refine bodyPost_ret (res_row_slot Try.results97 (Row.put R8.out.r (m4 (.slice pa nf qa) (.slice pb nl qb) (.slice pc nr qc) (.slice pd nc qd))) rfl rfl Try.underlying34 rfl info_marking) rfl (R8.out.no _ _ rfl rfl rfl rfl HE.out)
    have HTL : Hid (((-1) : Int) < (cs.length : Int)) := HLT.out _ HREF.out
    have HE : Hid (stepOk h cs ⟨3, va, 0, (-1)⟩ = true) := by unfold Hid; rw [HKE.out, HREF.out]; simp
    obtain ⟨l1, h1, _, _, _, _, kc, kb⟩ := O8.out.norm HLO.out
    have T8 : Hid (StT w w8 lo hi _ _ (.slice pa nf qa) (.slice pb nl qb) (.slice pc nr qc) (.slice pd nc qd) (.slice ra rf ta) (.slice rb rl tb) (.slice rc rr tc) ⟨3, va, 0, (-1)⟩ _ cs) := ⟨R8.out, H8.out, HP8.out, by rw [← HNC.out]; rw [← HNC.out] at kc; exact kc, fun g q => (kb g q).2, by have := SZ6.out; have := HSW.out; omega⟩
    clear kc kb R8 H8
    have HHH : Hid (stepH h ⟨3, va, 0, (-1)⟩ = setR h va (-1)) := stepH3 rfl
    have HCC : Hid (stepC h cs ⟨3, va, 0, (-1)⟩ put = shade cs (if put = true then (-1) else h.r.getD va.toNat 0)) := (stepC23 (.inr rfl)).trans (by rw [wOf3 rfl])
    obtain ⟨_, hj0, hjl, _⟩ := setR_good HOK.out
    obtain ⟨j, rfl⟩ : ∃ j : Nat, va = j := ⟨va.toNat, by omega⟩
    rw [Int.toNat_natCast] at hjl HCC
    have HZR : Hid (h.r.getD j 0 < cs.length) := inR_get (fun z hz => by rw [HNC.out, HLCN.out, ← HNF.out]; exact (refs_bound HG.out HG.out.rr z hz).imp id (fun q => ⟨q.1, q.2.1⟩)) hjl
    rw [HNR.out] at hjl
    obtain ⟨rb', ro', epc, hcr⟩ := O8.out.heap.r.at' (by omega)
    have qr := hcr j hjl
    have j0 : (0 : Int) ≤ (j : Int) := by omega
    have j1 : (j : Int) < (nr : Int) := by omega
    have m2 : w8.cell? ⟨w.heap.size, 2, none⟩ = some (.slice (some ⟨rb', ro', none⟩) nr qc) := by rw [← epc]; exact T8.out.rw'.m.cell 2
    have v1 : w8.cell? ⟨w.heap.size + 1, 1, none⟩ = some (.int .i64 (j : Int)) := T8.out.rw'.v.cell 1
    clear hcr hj0 O8 HP8
    generalize h.r.getD j 0 = zz at *
    generalize hput : put = pp at *
    have HPP := Lib.hid hput; clear hput
    have HZZ : Hid ((if pp = true then ((-1) : Int) else zz) < (cs.length : Int)) := by
      unfold Hid
      split
      · exact HTL.out
      · exact HZR.out
    cases pp
    · skip
      have HZ : Hid ((zz : Int) < (cs.length : Int)) := HZZ.out
      clear HZZ
      have m3 := T8.out.rw'.m.cell 3
      have v3 : (_ : World).cell? ⟨w.heap.size + 1, 3, none⟩ = some (.int .i64 (-1)) := T8.out.rw'.v.cell 3
      skip
      go_wp2_with fail
      clear m2 v1 qr
      refine (s_l6Shade (.slice pd nc qd) cs zz lo _ T8.out.col HZ.out).mono ?_
      rintro e w9 ⟨rfl, ho9, hg9⟩
      have T9 := Lib.hid (T8.out.setCol ho9 hg9)
      have T10 := Lib.hid T9.out.heap
      clear ho9 hg9 m3 v3
      have h0 := T9.out.hr.c0
      have h1 := T9.out.hr.c1
      have h2 := T9.out.hr.c2
      have m0 := T9.out.rw'.m.cell 0
      have m1 := T9.out.rw'.m.cell 1
      have m2 := T9.out.rw'.m.cell 2
      have f0 := T9.out.rw'.m.frozen 0
      have f1 := T9.out.rw'.m.frozen 1
      have f2 := T9.out.rw'.m.frozen 2
      go_upto_region 27 with fail
      clear h0 h1 h2 m0 m1 m2 f0 f1 f2
      generalize (((w9.setCell ⟨w.heap.size, 0, none⟩ (.slice ra rf ta)).setCell ⟨w.heap.size, 1, none⟩ (.slice rb rl tb)).setCell ⟨w.heap.size, 2, none⟩ (.slice rc rr tc)) = x10 at *
      go_wp2_with (first
        | (refine wl_loadM rfl _ rfl w.heap.size (.slice ra rf ta) (.slice rb rl tb) (.slice rc rr tc) (.slice pd nc qd) T10.out.rw'.m rfl ?_)
        | (refine wl_storeM rfl _ _ rfl (w.heap.size + 1 + 1) (.slice ra rf ta) (.slice rb rl tb) (.slice rc rr tc) (.slice pd nc qd) _ _ _ _ T10.out.rw'.r rfl rfl rfl rfl rfl rfl ?_))
      refine bodyPost_ret (res_row_slot Try.results97 (Row.put T10.out.rw'.r (m4 (.slice ra rf ta) (.slice rb rl tb) (.slice rc rr tc) (.slice pd nc qd))) rfl rfl Try.underlying34 rfl info_marking) rfl ?_
      rw [HHH.out, HCC.out, HE.out]
      refine ⟨_, _, _, _, rfl, ⟨rfl, rfl, rfl, rfl⟩, fun _ w'' hw'' => ⟨?_, ?_⟩, T10.out.rw'.l.thenB (below_setRow (Below.refl _ _) (by omega) _)⟩
      · have Q := T10.out.q
        obtain ⟨us, hf⟩ := T10.out.hp
        exact FamH.reads (us := us) (hf.keep fun g q1 _ _ => (hw'' g (by omega)).trans (setRow_other _ _ g _ (by omega)))
      · rw [if_neg (by decide)]
        exact Own.ints (owns_block T10.out.col fun g q => (hw'' g (.inl ⟨(owns_lt T10.out.col q).1, T10.out.cb g q⟩)).trans (setRow_other _ _ g _ (by have := T10.out.cb g q; have := T10.out.q; omega)))
    · skip
      have HZ : Hid (((-1) : Int) < (cs.length : Int)) := HZZ.out
      clear HZZ
      have m3 := T8.out.rw'.m.cell 3
      have v3 : (_ : World).cell? ⟨w.heap.size + 1, 3, none⟩ = some (.int .i64 (-1)) := T8.out.rw'.v.cell 3
      skip
      go_wp2_with fail
      clear m2 v1 qr
      refine (s_l6Shade (.slice pd nc qd) cs (-1) lo _ T8.out.col HZ.out).mono ?_
      rintro e w9 ⟨rfl, ho9, hg9⟩
      have T9 := Lib.hid (T8.out.setCol ho9 hg9)
      have T10 := Lib.hid T9.out.heap
      clear ho9 hg9 m3 v3
      have h0 := T9.out.hr.c0
      have h1 := T9.out.hr.c1
      have h2 := T9.out.hr.c2
      have m0 := T9.out.rw'.m.cell 0
      have m1 := T9.out.rw'.m.cell 1
      have m2 := T9.out.rw'.m.cell 2
      have f0 := T9.out.rw'.m.frozen 0
      have f1 := T9.out.rw'.m.frozen 1
      have f2 := T9.out.rw'.m.frozen 2
      go_upto_region 27 with fail
      clear h0 h1 h2 m0 m1 m2 f0 f1 f2
      generalize (((w9.setCell ⟨w.heap.size, 0, none⟩ (.slice ra rf ta)).setCell ⟨w.heap.size, 1, none⟩ (.slice rb rl tb)).setCell ⟨w.heap.size, 2, none⟩ (.slice rc rr tc)) = x10 at *
      go_wp2_with (first
        | (refine wl_loadM rfl _ rfl w.heap.size (.slice ra rf ta) (.slice rb rl tb) (.slice rc rr tc) (.slice pd nc qd) T10.out.rw'.m rfl ?_)
        | (refine wl_storeM rfl _ _ rfl (w.heap.size + 1 + 1) (.slice ra rf ta) (.slice rb rl tb) (.slice rc rr tc) (.slice pd nc qd) _ _ _ _ T10.out.rw'.r rfl rfl rfl rfl rfl rfl ?_))
      refine bodyPost_ret (res_row_slot Try.results97 (Row.put T10.out.rw'.r (m4 (.slice ra rf ta) (.slice rb rl tb) (.slice rc rr tc) (.slice pd nc qd))) rfl rfl Try.underlying34 rfl info_marking) rfl ?_
      rw [HHH.out, HCC.out, HE.out]
      refine ⟨_, _, _, _, rfl, ⟨rfl, rfl, rfl, rfl⟩, fun _ w'' hw'' => ⟨?_, ?_⟩, T10.out.rw'.l.thenB (below_setRow (Below.refl _ _) (by omega) _)⟩
      · have Q := T10.out.q
        obtain ⟨us, hf⟩ := T10.out.hp
        exact FamH.reads (us := us) (hf.keep fun g q1 _ _ => (hw'' g (by omega)).trans (setRow_other _ _ g _ (by omega)))
      · first | rw [if_pos rfl] | rw [if_pos trivial]
        exact Own.ints (owns_block T10.out.col fun g q => (hw'' g (.inl ⟨(owns_lt T10.out.col q).1, T10.out.cb g q⟩)).trans (setRow_other _ _ g _ (by have := T10.out.cb g q; have := T10.out.q; omega)))
  · have ht1 : (vt == -1) = false := by simpa using ht
    have ht2 : (vt != -1) = true := by simpa using ht
    have HRE : Hid (refB (reachL h.f h.r) vt = liveB (reachL h.f h.r) vt) := by unfold Hid refB; rw [decide_eq_false ht]; rfl
    clear ht
    go_wp2_with fail
    refine (s_l7Reached _ _ _ h vt _ O5.out.heap HG.out).mono ?_
    rintro e w6 ⟨rfl, hb6⟩
    have R6 := Lib.hid (R5.out.below hb6); have O6 := Lib.hid (O5.out.below hb6); have H6 := Lib.hid (show RowH _ (w.heap.size + 1 + 1 + 1) nilS nilS nilS from Row.below H5.out hb6)
    clear hb6 R5 O5 H5 m0 m1 m2 v3 v2
    generalize hy : liveB (reachL h.f h.r) vt = y at *
    have HY := Lib.hid hy; clear hy
    cases y
    · have HE : Hid (stepOk h cs ⟨3, va, 0, vt⟩ = false) := by unfold Hid; rw [HKE.out, HRE.out]; simp
      go_upto_region 17 with fail
      go_wp2_with (first
        | (refine wl_loadM rfl _ rfl w.heap.size (.slice pa nf qa) (.slice pb nl qb) (.slice pc nr qc) (.slice pd nc qd) R6.out.m rfl ?_)
        | (refine wl_storeM rfl _ _ rfl (w.heap.size + 1 + 1) (.slice pa nf qa) (.slice pb nl qb) (.slice pc nr qc) (.slice pd nc qd) _ _ _ _ R6.out.r rfl rfl rfl rfl rfl rfl ?_))
      refine bodyPost_ret (res_row_slot Try.results97 (Row.put R6.out.r (m4 (.slice pa nf qa) (.slice pb nl qb) (.slice pc nr qc) (.slice pd nc qd))) rfl rfl Try.underlying34 rfl info_marking) rfl (R6.out.no _ _ rfl rfl rfl rfl HE.out)
    have HREF : Hid (refB (reachL h.f h.r) vt = true) := HRE.out
    have m0 := R6.out.m.cell 0
    have m1 := R6.out.m.cell 1
    have m2 := R6.out.m.cell 2
    have v1 : (_ : World).cell? ⟨w.heap.size + 1, 1, none⟩ = some (.int .i64 _) := R6.out.v.cell 1
    have v2 : (_ : World).cell? ⟨w.heap.size + 1, 2, none⟩ = some (.int .i64 _) := R6.out.v.cell 2
    have v3 : (_ : World).cell? ⟨w.heap.size + 1, 3, none⟩ = some (.int .i64 _) := R6.out.v.cell 3
    go_wp2_with fail
    refine (s_SetRoot _ _ _ h va vt _ O6.out.heap).mono ?_
    rintro e w7 ⟨a7, b7, c7, rfl, ho7, hb7⟩
    obtain ⟨⟨ra, ta, e1⟩, ⟨rb, tb, e2⟩, ⟨rc, tc, e3⟩⟩ := ho7.shapes
    subst e1 e2 e3
    have R7 := Lib.hid (R6.out.below hb7)
    have O7 := Lib.hid (O6.out.below hb7)
    have H7 := Lib.hid (show RowH _ (w.heap.size + 1 + 1 + 1) nilS nilS nilS from Row.below H6.out hb7)
    have SZ6 := Lib.hid (Row.lt H6.out)
    have HP7 := Lib.hid ho7
    clear ho7 hb7
    clear m0 m1 m2 v1 v2 v3
    generalize hok : setROk h va vt = ok at *
    have HOK := Lib.hid hok; clear hok
    generalize hrf : (setR h va vt).f.length = rf at *
    generalize hrl : (setR h va vt).l.length = rl at *
    generalize hrr : (setR h va vt).r.length = rr at *
    clear hrf hrl hrr
    have hc8 := chgRow w7 (w.heap.size + 1 + 1 + 1) (c3 (.slice ra rf ta) (.slice rb rl tb) (.slice rc rr tc))
    have R8 : Hid (RwM w (w7.setRow (w.heap.size + 1 + 1 + 1) (c3 (.slice ra rf ta) (.slice rb rl tb) (.slice rc rr tc))) lo hi (.slice pa nf qa) (.slice pb nl qb) (.slice pc nr qc) (.slice pd nc qd) _) := ⟨Row.putOther R7.out.m _ (by omega), Row.putOther R7.out.v _ (by omega), Row.putOther R7.out.r _ (by omega), R7.out.l.thenB (below_setRow (Below.refl _ _) (by omega) _), R7.out.lw⟩
    have H8 := Lib.hid (show RowH _ (w.heap.size + 1 + 1 + 1) (.slice ra rf ta) (.slice rb rl tb) (.slice rc rr tc) from Row.put H7.out (c3 (.slice ra rf ta) (.slice rb rl tb) (.slice rc rr tc)))
    have O8 := Lib.hid (O7.out.chg hc8 (.inl (by have := HSW.out; omega)))
    have HP8 := Lib.hid (HP7.out.chg hc8 (.inr (by have := SZ6.out; omega)))
    clear hc8
    go_upto_region 19 with (refine wl_storeH rfl _ _ rfl (w.heap.size + 1 + 1 + 1) (.slice ra rf ta) (.slice rb rl tb) (.slice rc rr tc) nilS nilS nilS H7.out rfl rfl rfl rfl rfl ?_)
    clear R7 O7 H7 HP7 R6 O6 H6
    generalize w7.setRow (w.heap.size + 1 + 1 + 1) (c3 (.slice ra rf ta) (.slice rb rl tb) (.slice rc rr tc)) = w8 at *
    cases ok
    · have HE : Hid (stepOk h cs ⟨3, va, 0, vt⟩ = false) := by unfold Hid; rw [HKE.out]; simp
      go_upto_region 22 with fail
      go_wp2_with (first
        | (refine wl_loadM rfl _ rfl w.heap.size (.slice pa nf qa) (.slice pb nl qb) (.slice pc nr qc) (.slice pd nc qd) R8.out.m rfl ?_)
        | (refine wl_storeM rfl _ _ rfl (w.heap.size + 1 + 1) (.slice pa nf qa) (.slice pb nl qb) (.slice pc nr qc) (.slice pd nc qd) _ _ _ _ R8.out.r rfl rfl rfl rfl rfl rfl ?_))
      refine bodyPost_ret (res_row_slot Try.results97 (Row.put R8.out.r (m4 (.slice pa nf qa) (.slice pb nl qb) (.slice pc nr qc) (.slice pd nc qd))) rfl rfl Try.underlying34 rfl info_marking) rfl (R8.out.no _ _ rfl rfl rfl rfl HE.out)
    have HTL : Hid ((vt : Int) < (cs.length : Int)) := HLT.out _ HREF.out
    have HE : Hid (stepOk h cs ⟨3, va, 0, vt⟩ = true) := by unfold Hid; rw [HKE.out, HREF.out]; simp
    obtain ⟨l1, h1, _, _, _, _, kc, kb⟩ := O8.out.norm HLO.out
    have T8 : Hid (StT w w8 lo hi _ _ (.slice pa nf qa) (.slice pb nl qb) (.slice pc nr qc) (.slice pd nc qd) (.slice ra rf ta) (.slice rb rl tb) (.slice rc rr tc) ⟨3, va, 0, vt⟩ _ cs) := ⟨R8.out, H8.out, HP8.out, by rw [← HNC.out]; rw [← HNC.out] at kc; exact kc, fun g q => (kb g q).2, by have := SZ6.out; have := HSW.out; omega⟩
    clear kc kb R8 H8
    have HHH : Hid (stepH h ⟨3, va, 0, vt⟩ = setR h va vt) := stepH3 rfl
    have HCC : Hid (stepC h cs ⟨3, va, 0, vt⟩ put = shade cs (if put = true then vt else h.r.getD va.toNat 0)) := (stepC23 (.inr rfl)).trans (by rw [wOf3 rfl])
    obtain ⟨_, hj0, hjl, _⟩ := setR_good HOK.out
    obtain ⟨j, rfl⟩ : ∃ j : Nat, va = j := ⟨va.toNat, by omega⟩
    rw [Int.toNat_natCast] at hjl HCC
    have HZR : Hid (h.r.getD j 0 < cs.length) := inR_get (fun z hz => by rw [HNC.out, HLCN.out, ← HNF.out]; exact (refs_bound HG.out HG.out.rr z hz).imp id (fun q => ⟨q.1, q.2.1⟩)) hjl
    rw [HNR.out] at hjl
    obtain ⟨rb', ro', epc, hcr⟩ := O8.out.heap.r.at' (by omega)
    have qr := hcr j hjl
    have j0 : (0 : Int) ≤ (j : Int) := by omega
    have j1 : (j : Int) < (nr : Int) := by omega
    have m2 : w8.cell? ⟨w.heap.size, 2, none⟩ = some (.slice (some ⟨rb', ro', none⟩) nr qc) := by rw [← epc]; exact T8.out.rw'.m.cell 2
    have v1 : w8.cell? ⟨w.heap.size + 1, 1, none⟩ = some (.int .i64 (j : Int)) := T8.out.rw'.v.cell 1
    clear hcr hj0 O8 HP8
    generalize h.r.getD j 0 = zz at *
    generalize hput : put = pp at *
    have HPP := Lib.hid hput; clear hput
    have HZZ : Hid ((if pp = true then (vt : Int) else zz) < (cs.length : Int)) := by
      unfold Hid
      split
      · exact HTL.out
      · exact HZR.out
    cases pp
    · skip
      have HZ : Hid ((zz : Int) < (cs.length : Int)) := HZZ.out
      clear HZZ
      have m3 := T8.out.rw'.m.cell 3
      have v3 : (_ : World).cell? ⟨w.heap.size + 1, 3, none⟩ = some (.int .i64 vt) := T8.out.rw'.v.cell 3
      skip
      go_wp2_with fail
      clear m2 v1 qr
      refine (s_l6Shade (.slice pd nc qd) cs zz lo _ T8.out.col HZ.out).mono ?_
      rintro e w9 ⟨rfl, ho9, hg9⟩
      have T9 := Lib.hid (T8.out.setCol ho9 hg9)
      have T10 := Lib.hid T9.out.heap
      clear ho9 hg9 m3 v3
      have h0 := T9.out.hr.c0
      have h1 := T9.out.hr.c1
      have h2 := T9.out.hr.c2
      have m0 := T9.out.rw'.m.cell 0
      have m1 := T9.out.rw'.m.cell 1
      have m2 := T9.out.rw'.m.cell 2
      have f0 := T9.out.rw'.m.frozen 0
      have f1 := T9.out.rw'.m.frozen 1
      have f2 := T9.out.rw'.m.frozen 2
      go_upto_region 27 with fail
      clear h0 h1 h2 m0 m1 m2 f0 f1 f2
      generalize (((w9.setCell ⟨w.heap.size, 0, none⟩ (.slice ra rf ta)).setCell ⟨w.heap.size, 1, none⟩ (.slice rb rl tb)).setCell ⟨w.heap.size, 2, none⟩ (.slice rc rr tc)) = x10 at *
      go_wp2_with (first
        | (refine wl_loadM rfl _ rfl w.heap.size (.slice ra rf ta) (.slice rb rl tb) (.slice rc rr tc) (.slice pd nc qd) T10.out.rw'.m rfl ?_)
        | (refine wl_storeM rfl _ _ rfl (w.heap.size + 1 + 1) (.slice ra rf ta) (.slice rb rl tb) (.slice rc rr tc) (.slice pd nc qd) _ _ _ _ T10.out.rw'.r rfl rfl rfl rfl rfl rfl ?_))
      refine bodyPost_ret (res_row_slot Try.results97 (Row.put T10.out.rw'.r (m4 (.slice ra rf ta) (.slice rb rl tb) (.slice rc rr tc) (.slice pd nc qd))) rfl rfl Try.underlying34 rfl info_marking) rfl ?_
      rw [HHH.out, HCC.out, HE.out]
      refine ⟨_, _, _, _, rfl, ⟨rfl, rfl, rfl, rfl⟩, fun _ w'' hw'' => ⟨?_, ?_⟩, T10.out.rw'.l.thenB (below_setRow (Below.refl _ _) (by omega) _)⟩
      · have Q := T10.out.q
        obtain ⟨us, hf⟩ := T10.out.hp
        exact FamH.reads (us := us) (hf.keep fun g q1 _ _ => (hw'' g (by omega)).trans (setRow_other _ _ g _ (by omega)))
      · rw [if_neg (by decide)]
        exact Own.ints (owns_block T10.out.col fun g q => (hw'' g (.inl ⟨(owns_lt T10.out.col q).1, T10.out.cb g q⟩)).trans (setRow_other _ _ g _ (by have := T10.out.cb g q; have := T10.out.q; omega)))
    · skip
      have HZ : Hid ((vt : Int) < (cs.length : Int)) := HZZ.out
      clear HZZ
      have m3 := T8.out.rw'.m.cell 3
      have v3 : (_ : World).cell? ⟨w.heap.size + 1, 3, none⟩ = some (.int .i64 vt) := T8.out.rw'.v.cell 3
      skip
      go_wp2_with fail
      clear m2 v1 qr
      refine (s_l6Shade (.slice pd nc qd) cs vt lo _ T8.out.col HZ.out).mono ?_
      rintro e w9 ⟨rfl, ho9, hg9⟩
      have T9 := Lib.hid (T8.out.setCol ho9 hg9)
      have T10 := Lib.hid T9.out.heap
      clear ho9 hg9 m3 v3
      have h0 := T9.out.hr.c0
      have h1 := T9.out.hr.c1
      have h2 := T9.out.hr.c2
      have m0 := T9.out.rw'.m.cell 0
      have m1 := T9.out.rw'.m.cell 1
      have m2 := T9.out.rw'.m.cell 2
      have f0 := T9.out.rw'.m.frozen 0
      have f1 := T9.out.rw'.m.frozen 1
      have f2 := T9.out.rw'.m.frozen 2
      go_upto_region 27 with fail
      clear h0 h1 h2 m0 m1 m2 f0 f1 f2
      generalize (((w9.setCell ⟨w.heap.size, 0, none⟩ (.slice ra rf ta)).setCell ⟨w.heap.size, 1, none⟩ (.slice rb rl tb)).setCell ⟨w.heap.size, 2, none⟩ (.slice rc rr tc)) = x10 at *
      go_wp2_with (first
        | (refine wl_loadM rfl _ rfl w.heap.size (.slice ra rf ta) (.slice rb rl tb) (.slice rc rr tc) (.slice pd nc qd) T10.out.rw'.m rfl ?_)
        | (refine wl_storeM rfl _ _ rfl (w.heap.size + 1 + 1) (.slice ra rf ta) (.slice rb rl tb) (.slice rc rr tc) (.slice pd nc qd) _ _ _ _ T10.out.rw'.r rfl rfl rfl rfl rfl rfl ?_))
      refine bodyPost_ret (res_row_slot Try.results97 (Row.put T10.out.rw'.r (m4 (.slice ra rf ta) (.slice rb rl tb) (.slice rc rr tc) (.slice pd nc qd))) rfl rfl Try.underlying34 rfl info_marking) rfl ?_
      rw [HHH.out, HCC.out, HE.out]
      refine ⟨_, _, _, _, rfl, ⟨rfl, rfl, rfl, rfl⟩, fun _ w'' hw'' => ⟨?_, ?_⟩, T10.out.rw'.l.thenB (below_setRow (Below.refl _ _) (by omega) _)⟩
      · have Q := T10.out.q
        obtain ⟨us, hf⟩ := T10.out.hp
        exact FamH.reads (us := us) (hf.keep fun g q1 _ _ => (hw'' g (by omega)).trans (setRow_other _ _ g _ (by omega)))
      · first | rw [if_pos rfl] | rw [if_pos trivial]
        exact Own.ints (owns_block T10.out.col fun g q => (hw'' g (.inl ⟨(owns_lt T10.out.col q).1, T10.out.cb g q⟩)).trans (setRow_other _ _ g _ (by have := T10.out.cb g q; have := T10.out.q; omega)))
end Go.Proofs.Ytbmfkgfmibpkjaa
namespace Go.Proofs.Ytbmfkgfmibpkjaa
open Go.RowKit Ph
set_option maxHeartbeats 12800000 in
set_option maxRecDepth 100000 in
theorem s_l7Step4 (lo hi : Nat) (a b c d : Value) (h : H) (cs : List Int) (v : Mv) (put : Bool) (w : World) (hk : v.k = 4) (hO : OwnM w lo hi a b c d h cs) (hB : bothB h cs = true) (hl : lo ≤ hi) (hs : hi ≤ w.heap.size) :
    Calls Try.prog 97 #[mv a b c d, mo v, .bool put] w (StE (stepH h v) (stepC h cs v put) (stepOk h cs v) lo hi w) := by
  obtain ⟨⟨pa, qa, e1⟩, ⟨pb, qb, e2⟩, ⟨pc, qc, e3⟩, ⟨pd, qd, e4⟩⟩ := hO.shapes
  subst e1 e2 e3 e4
  obtain ⟨g, hlc, hcol⟩ := bothB_iff.1 hB
  have HBB := Lib.hid hB
  have hn12 := g.n
  have hr4 := g.rn
  have HG := Lib.hid g
  have b0 := (((below1 w (.cells (m4 (.slice pa h.f.length qa) (.slice pb h.l.length qb) (.slice pc h.r.length qc) (.slice pd cs.length qd)) 34)).alloc (by simp) (.cells (mo4 v) 38)).alloc (by simp; omega) (.cells (m4 nilS nilS nilS nilS) 34)).alloc (by simp; omega) (.cells (c3 nilS nilS nilS) 32)
  have R0 := Lib.hid (RwM.mk (v := v) (show RowM _ w.heap.size _ _ _ _ from (((Row.new w 34 (m4 (.slice pa h.f.length qa) (.slice pb h.l.length qb) (.slice pc h.r.length qc) (.slice pd cs.length qd))).alloc (.cells (mo4 v) 38)).alloc (.cells (m4 nilS nilS nilS nilS) 34)).alloc (.cells (c3 nilS nilS nilS) 32)) (((Row.new1 w _ _ _).alloc _).alloc _) ((Row.new2 w _ _ _ _).alloc _) (Chg.of_below (lo := lo) (hi := hi) b0) (by omega))
  have H0 := Lib.hid (show RowH _ (w.heap.size + 1 + 1 + 1) nilS nilS nilS from Row.new3 w (.cells (m4 (.slice pa h.f.length qa) (.slice pb h.l.length qb) (.slice pc h.r.length qc) (.slice pd cs.length qd)) 34) (.cells (mo4 v) 38) (.cells (m4 nilS nilS nilS nilS) 34) 32 (c3 nilS nilS nilS))
  have O0 := Lib.hid (hO.below b0)
  clear hO b0 hB g
  obtain ⟨vk, va, vb, vt⟩ := v
  try simp only
  generalize hnf : h.f.length = nf at *
  have HNF := Lib.hid hnf; clear hnf
  generalize hnl : h.l.length = nl at *
  have HNL := Lib.hid hnl; clear hnl
  generalize hnr : h.r.length = nr at *
  have HNR := Lib.hid hnr; clear hnr
  generalize hnc : cs.length = nc at *
  have HNC := Lib.hid hnc; clear hnc
  have HSW := Lib.hid hs; have HLO := Lib.hid hl; have HCOL := Lib.hid hcol; have HLCN : Hid (nc = nf) := hlc
  clear hs hl hcol hlc
  have v0 : (_ : World).cell? ⟨w.heap.size + 1, 0, none⟩ = some (.int .i64 vk) := R0.out.v.cell 0
  simp only at hk
  subst hk
  go_enter Try.func97, Try.ntmps97
  go_upto_region 5 with fail
  generalize ((((w.alloc (.cells (m4 (.slice pa nf qa) (.slice pb nl qb) (.slice pc nr qc) (.slice pd nc qd)) 34)).alloc (.cells (mo4 ⟨4, va, vb, vt⟩) 38)).alloc (.cells (m4 nilS nilS nilS nilS) 34)).alloc (.cells (c3 nilS nilS nilS) 32)) = w0 at *
  have v1 : w0.cell? ⟨w.heap.size + 1, 1, none⟩ = some (.int .i64 va) := R0.out.v.cell 1
  have v2 : w0.cell? ⟨w.heap.size + 1, 2, none⟩ = some (.int .i64 vb) := R0.out.v.cell 2
  have v3 : w0.cell? ⟨w.heap.size + 1, 3, none⟩ = some (.int .i64 vt) := R0.out.v.cell 3
  have m0 := R0.out.m.cell 0
  have m1 := R0.out.m.cell 1
  have m2 := R0.out.m.cell 2
  have m3 := R0.out.m.cell 3
  go_upto_region 8 with fail
  go_wp2_with (refine wl_loadM rfl _ rfl w.heap.size (.slice pa nf qa) (.slice pb nl qb) (.slice pc nr qc) (.slice pd nc qd) R0.out.m rfl ?_)
  refine (s_l7New lo hi (.slice pa nf qa) (.slice pb nl qb) (.slice pc nr qc) (.slice pd nc qd) h cs ⟨4, va, vb, vt⟩ put _ O0.out HBB.out HLO.out (by have := Row.lt R0.out.m; have := HSW.out; omega)).mono ?_
  rintro e w2 ⟨a2, b2, c2, d2, rfl, one, rd, bl⟩
  have SZ0 : Hid (w.heap.size + 1 + 1 + 1 < w0.heap.size) := Row.lt H0.out
  have R2 := Lib.hid (R0.out.chg bl HSW.out)
  have ONE := Lib.hid one; have RD := Lib.hid rd
  have EQ : Hid (nwOk h ⟨4, va, vb, vt⟩ = stepOk h cs ⟨4, va, vb, vt⟩) := (stK4 (h := h) (cs := cs) (v := ⟨4, va, vb, vt⟩) rfl).symm
  have EQH : Hid (newH h va vb = stepH h ⟨4, va, vb, vt⟩) := (stepH4 (h := h) (v := ⟨4, va, vb, vt⟩) rfl).symm
  have EQC : Hid (nwC h cs ⟨4, va, vb, vt⟩ put = stepC h cs ⟨4, va, vb, vt⟩ put) := (stC4 (h := h) (cs := cs) (v := ⟨4, va, vb, vt⟩) put rfl).symm
  clear one rd bl v0 v1 v2 v3 m0 m1 m2 m3 R0 O0
  generalize nwOk h ⟨4, va, vb, vt⟩ = ok at *
  go_wp2_with (refine wl_storeM rfl _ _ rfl (w.heap.size + 1 + 1) a2 b2 c2 d2 _ _ _ _ R2.out.r rfl rfl ONE.out.1 ONE.out.2.1 ONE.out.2.2.1 ONE.out.2.2.2 ?_)
  refine bodyPost_ret (res_row_slot Try.results97 (Row.put R2.out.r (m4 a2 b2 c2 d2)) rfl rfl Try.underlying34 rfl info_marking) rfl ?_
  rw [← EQ.out, ← EQH.out, ← EQC.out]
  exact ⟨a2, b2, c2, d2, rfl, ONE.out, fun q w'' hw'' => RD.out q w'' (fun i hi' => (hw'' i (by have := SZ0.out; omega)).trans (setRow_other _ _ i _ (by have := SZ0.out; have := HSW.out; omega))), R2.out.l.thenB (below_setRow (Below.refl _ _) (by omega) _)⟩
end Go.Proofs.Ytbmfkgfmibpkjaa
namespace Go.Proofs.Ytbmfkgfmibpkjaa
open Go.RowKit Ph
theorem s_l7Step (lo hi : Nat) (a b c d : Value) (h : H) (cs : List Int) (v : Mv) (put : Bool) (w : World) (hO : OwnM w lo hi a b c d h cs) (hB : bothB h cs = true) (hl : lo ≤ hi) (hs : hi ≤ w.heap.size) :
    Calls Try.prog 97 #[mv a b c d, mo v, .bool put] w (StE (stepH h v) (stepC h cs v put) (stepOk h cs v) lo hi w) := by
  by_cases h1 : v.k = 1
  · exact s_l7Step1 lo hi a b c d h cs v put w h1 hO hB hl hs
  · by_cases h2 : v.k = 2
    · exact s_l7Step2 lo hi a b c d h cs v put w h2 hO hB hl hs
    · by_cases h3 : v.k = 3
      · exact s_l7Step3 lo hi a b c d h cs v put w h3 hO hB hl hs
      · by_cases h4 : v.k = 4
        · exact s_l7Step4 lo hi a b c d h cs v put w h4 hO hB hl hs
        · exact s_l7Step0 lo hi a b c d h cs v put w ⟨h1, h2, h3, h4⟩ hO hB hl hs
end Go.Proofs.Ytbmfkgfmibpkjaa
