/- What the laws rest on, part 6. -/
import Derived.Test.YtkkigoamphkalaaQD5
import Derived.Test.YtkkigoamphkalaaRows
import Derived.Lib.SmallJoins
import Derived.WalkKit
import Derived.ProofKit
import Derived.OpenShut
import Derived.WalkSmall
import Derived.Deep.DeepHandedRow
import Derived.Lib.LaidTab
namespace Go.Proofs.Ytkkigoamphkalaa
open Go.RowKit Ph

theorem res_row_row {P : Program} {fn : Func} {p p' : Tmp} {ty ty' : TypeId} (h : fn.results = #[.cell p ty, .cell p' ty']) {tmps : Array Value} {w : World} {g g' : Nat} {t t' : TypeId} {cs cs' : Array Value} {d d' : TypeDesc} (hg : Row w g t cs) (hg' : Row w g' t' cs')
    (hp : tmps.getD p undef = .pointer (some ⟨g, 0, none⟩)) (hp' : tmps.getD p' undef = .pointer (some ⟨g', 0, none⟩)) (hu : P.underlying ty = some d) (hd : (match d with | .struct _ | .array _ _ => true | _ => false) = true) (hi : (P.info? ty).map (·.size) = some cs.size)
    (hu' : P.underlying ty' = some d') (hd' : (match d' with | .struct _ | .array _ _ => true | _ => false) = true) (hi' : (P.info? ty').map (·.size) = some cs'.size) :
    (results fn tmps).run P w = .ok (.tuple #[.agg cs, .agg cs']) w := by
  have e1 : tmps[p]?.getD undef = .pointer (some ⟨g, 0, none⟩) := by simpa using hp
  have e2 : tmps[p']?.getD undef = .pointer (some ⟨g', 0, none⟩) := by simpa using hp'
  simp [results, h, e1, e2, asAddr, run_loadVar_row w g t ty cs (0, 0) d hg hu hd hi, run_loadVar_row w g' t' ty' cs' (0, 0) d' hg' hu' hd' hi']
/-- Two heaps that a draw has made, in their variables, and the two that it answers. -/
structure Two (w W X : World) (n gA : Nat) (a b c : Value) (h : H) : Prop where
  dv : Dv W (w.heap.size + 2) n X
  r0 : zrow X w.heap.size
  r1 : zrow X (w.heap.size + 1)
  va : RowH X gA a b c
  own : OwnH X (w.heap.size + 3) gA a b c h
  low : w.heap.size + 3 ≤ gA
section
variable {w W X Y : World} {n n' gA : Nat} {a b c : Value} {h : H}
theorem Two.step (k : Two w W X n gA a b c h) (hc : CurIs Y (w.heap.size + 2) n') (hg : X.grownBy Y (some (w.heap.size + 2))) : Two w W Y n' gA a b c h :=
  ⟨k.dv.step hc hg, row_stepC k.r0 (by omega) hg, row_stepC k.r1 (by omega) hg, row_stepC k.va (by have := k.low; omega) hg, k.own.stepC (by omega) hg, k.low⟩
theorem Two.below (k : Two w W X n gA a b c h) (hb : Below X.heap.size X Y) : Two w W Y n gA a b c h :=
  ⟨k.dv.low (hb.mono k.dv.size), Row.below k.r0 hb, Row.below k.r1 hb, Row.below k.va hb, k.own.below hb, k.low⟩
end
set_option maxRecDepth 100000 in
set_option maxHeartbeats 6400000 in
theorem d_SameReached (v : Value) (zs : List Int) (w : World) (hby : BytesAt w v zs) : Calls Try.prog 56 #[v] w fun e w' => ∃ a b cc h a' b' cc' h', e = .returned (.tuple #[hv a b cc, hv a' b' cc']) ∧ HeapAt w' a b cc h ∧ HeapAt w' a' b' cc' h' ∧ Below w.heap.size w w' := by
  have hb1 := (below1 w (.cells (c3 (.slice none 0 0) (.slice none 0 0) (.slice none 0 0)) 30)).alloc (by simp) (.cells (c3 (.slice none 0 0) (.slice none 0 0) (.slice none 0 0)) 30)
  have D0 := Lib.hid (dv_new (hby.below hb1))
  have hs1 : ((w.alloc (.cells (c3 (.slice none 0 0) (.slice none 0 0) (.slice none 0 0)) 30)).alloc (.cells (c3 (.slice none 0 0) (.slice none 0 0) (.slice none 0 0)) 30)).heap.size = w.heap.size + 2 := by simp
  have hsW : (((w.alloc (.cells (c3 (.slice none 0 0) (.slice none 0 0) (.slice none 0 0)) 30)).alloc (.cells (c3 (.slice none 0 0) (.slice none 0 0) (.slice none 0 0)) 30)).alloc (.cells #[v, .int .i64 0, .int .u64 0] 128)).heap.size = w.heap.size + 2 + 1 := by simp
  rw [hs1] at D0
  have R0 := Lib.hid (show zrow (((w.alloc (.cells (c3 (.slice none 0 0) (.slice none 0 0) (.slice none 0 0)) 30)).alloc (.cells (c3 (.slice none 0 0) (.slice none 0 0) (.slice none 0 0)) 30)).alloc (.cells #[v, .int .i64 0, .int .u64 0] 128)) w.heap.size from ((Row.new w 30 (c3 (.slice none 0 0) (.slice none 0 0) (.slice none 0 0))).alloc (.cells (c3 (.slice none 0 0) (.slice none 0 0) (.slice none 0 0)) 30)).alloc (.cells #[v, .int .i64 0, .int .u64 0] 128))
  have R1 := Lib.hid (show zrow (((w.alloc (.cells (c3 (.slice none 0 0) (.slice none 0 0) (.slice none 0 0)) 30)).alloc (.cells (c3 (.slice none 0 0) (.slice none 0 0) (.slice none 0 0)) 30)).alloc (.cells #[v, .int .i64 0, .int .u64 0] 128)) (w.heap.size + 1) from (Row.new1 w (.cells (c3 (.slice none 0 0) (.slice none 0 0) (.slice none 0 0)) 30) 30 (c3 (.slice none 0 0) (.slice none 0 0) (.slice none 0 0))).alloc (.cells #[v, .int .i64 0, .int .u64 0] 128))
  have HB1 := Lib.hid hb1
  have HS1 := Lib.hid hs1; have HSW := Lib.hid hsW
  have DB : Hid (∀ X m, Dv (((w.alloc (.cells (c3 (.slice none 0 0) (.slice none 0 0) (.slice none 0 0)) 30)).alloc (.cells (c3 (.slice none 0 0) (.slice none 0 0) (.slice none 0 0)) 30)).alloc (.cells #[v, .int .i64 0, .int .u64 0] 128)) (w.heap.size + 2) m X → Below w.heap.size w X) := fun X m q => HB1.out.trans ((dv_below (w := (w.alloc (.cells (c3 (.slice none 0 0) (.slice none 0 0) (.slice none 0 0)) 30)).alloc (.cells (c3 (.slice none 0 0) (.slice none 0 0) (.slice none 0 0)) 30)) (v := v) (m := m) (X := X) (by rw [HS1.out]; exact q)).mono HB1.out.size)
  obtain ⟨_, _, va, vc, rfl, _⟩ := hby
  clear hb1 hs1 hsW
  go_enter Try.func56, Try.ntmps56
  go_wp2_with fail
  refine (c_heap (w.heap.size + 2) 0 _ D0.out.1 (by omega)).mono ?_
  rintro e w2 ⟨a, b, cc, h, rfl, _, _, ho2, hc2, hg2⟩
  obtain ⟨⟨pa, qa, e1⟩, ⟨pb, qb, e2⟩, ⟨pc, qc, e3⟩⟩ := ho2.shapes
  subst e1 e2 e3
  rw [HSW.out] at ho2
  generalize h.f.length = nf at *
  generalize h.l.length = nl at *
  generalize h.r.length = nr at *
  have D2 := D0.out.step hc2 hg2
  have hba := below1 w2 (.cells (c3 (.slice pa nf qa) (.slice pb nl qb) (.slice pc nr qc)) 30)
  have hs2 := D2.size
  rw [HSW.out] at hs2
  have TA := Lib.hid (Two.mk (w := w) (D2.low (hba.mono D2.size)) (Row.below (row_stepC R0.out (by omega) hg2) hba) (Row.below (row_stepC R1.out (by omega) hg2) hba) (show RowH _ w2.heap.size (.slice pa nf qa) (.slice pb nl qb) (.slice pc nr qc) from Row.new w2 30 (c3 (.slice pa nf qa) (.slice pb nl qb) (.slice pc nr qc))) (ho2.below hba) (by omega))
  clear ho2 hc2 hg2 D0 R0 R1 D2 hba hs2
  go_wp2_with fail
  generalize hgA : w2.heap.size = gA at *
  clear hgA
  generalize w2.alloc (.cells (c3 (.slice pa nf qa) (.slice pb nl qb) (.slice pc nr qc)) 30) = w3 at *
  have HEV := Lib.hid (s_CleanHeap (.slice pa nf qa) (.slice pb nl qb) (.slice pc nr qc) h w3 (TA.out.own.reads))
  generalize (cleanP h).1 = h2 at *
  generalize ((cleanP h).2 : Int) = n2 at *
  generalize good h = ok at *
  refine HEV.out.mono ?_
  intro e w4 hend
  obtain ⟨a2, b2, c2, rfl, ho4, hb4⟩ := hend
  obtain ⟨⟨ra, ta, e1⟩, ⟨rb, tb, e2⟩, ⟨rc, tc, e3⟩⟩ := ho4.shapes
  subst e1 e2 e3
  generalize h2.f.length = mf at *
  generalize h2.l.length = ml at *
  generalize h2.r.length = mr at *
  have hba := below1 w4 (.cells (c3 (.slice ra mf ta) (.slice rb ml tb) (.slice rc mr tc)) 30)
  have TB := Lib.hid ((TA.out.below hb4).below hba)
  have VB := Lib.hid (show RowH _ w4.heap.size (.slice ra mf ta) (.slice rb ml tb) (.slice rc mr tc) from Row.new w4 30 (c3 (.slice ra mf ta) (.slice rb ml tb) (.slice rc mr tc)))
  have OB := Lib.hid (ho4.below hba)
  have LB : Hid (gA < w3.heap.size ∧ w3.heap.size ≤ w4.heap.size) := ⟨TA.out.va.lt, hb4.size⟩
  clear ho4 hb4 hba TA HEV
  cases ok
  · skip
    have d0 := TB.out.va.c0
    have d1 := TB.out.va.c1
    have d2 := TB.out.va.c2
    go_wp2_with fail
    clear d0 d1 d2
    have TC : Hid (Two w (((w.alloc (.cells (c3 (.slice none 0 0) (.slice none 0 0) (.slice none 0 0)) 30)).alloc (.cells (c3 (.slice none 0 0) (.slice none 0 0) (.slice none 0 0)) 30)).alloc (.cells #[(.slice va zs.length vc), .int .i64 0, .int .u64 0] 128)) (w4.alloc (.cells (c3 (.slice ra mf ta) (.slice rb ml tb) (.slice rc mr tc)) 30)).drew (0 + 200) gA (.slice pa nf qa) (.slice pb nl qb) (.slice pc nr qc) h) := TB.out.below (below_drew (Below.refl _ _))
    refine wp_region_held_drew (S := (fun w' => w'.cell? ⟨gA, 0, none⟩ = some (.slice pa nf qa) ∧ w'.cell? ⟨gA, 1, none⟩ = some (.slice pb nl qb) ∧ w'.cell? ⟨gA, 2, none⟩ = some (.slice pc nr qc))) (by kernel_rfl) (⟨TC.out.va.c0, TC.out.va.c1, TC.out.va.c2⟩) (fun hHeld => ?_)
    generalize (w4.alloc (.cells (c3 (.slice ra mf ta) (.slice rb ml tb) (.slice rc mr tc)) 30)).drew = x0 at *
    refine wpAnyH_take (i := 0) (v := ?va0x1) rfl (by kernel_rfl) (by kernel_rfl) (by kernel_rfl) (fun _ _ _ h => h) (Or.inl ⟨by rfl, ?hy0x1⟩) (by assumption) ?rest0x1
    case hy0x1 => (intro w hSw; (try dsimp only at hSw); go_simp; try with_reducible rfl)
    (try simp only [Act.put, List.getElem_toArray, List.getElem_cons_zero, List.setIfInBounds_toArray, List.set_cons_zero, List.set_cons_succ])
    refine wpAnyH_take (i := 1) (v := ?va1x2) rfl (by kernel_rfl) (by kernel_rfl) (by kernel_rfl) (fun _ _ _ h => h) (Or.inl ⟨by rfl, ?hy1x2⟩) (by assumption) ?rest1x2
    case hy1x2 => (intro w hSw; (try dsimp only at hSw); go_simp; try with_reducible rfl)
    (try simp only [Act.put, List.getElem_toArray, List.getElem_cons_zero, List.getElem_cons_succ, List.setIfInBounds_toArray, List.set_cons_zero, List.set_cons_succ])
    refine wpAnyH_ready (rs := [2]) (by kernel_rfl) (by simp) ?_
    refine AllReadyH.cons rfl (fun K hK => ?_) AllReadyH.nil
    go_simp
    refine (c_heap (w.heap.size + 2) (0 + 200) _ TC.out.dv.1 (by omega)).mono ?_
    rintro e w6 ⟨a6, b6, c6, h6, rfl, _, _, ho6, hc6, hg6⟩
    obtain ⟨⟨sa, ua, e1⟩, ⟨sb, ub, e2⟩, ⟨sc, uc, e3⟩⟩ := ho6.shapes
    subst e1 e2 e3
    generalize h6.f.length = kf at *
    generalize h6.l.length = kl at *
    generalize h6.r.length = kr at *
    have LX : Hid (gA < x0.heap.size) := TC.out.va.lt
    have TE := Lib.hid (TC.out.step hc6 hg6)
    have O6 := Lib.hid ho6
    clear ho6 hc6 hg6
    refine hK.out _ _ ⟨TE.out.va.c0, TE.out.va.c1, TE.out.va.c2⟩ (fun hHeld => ?_)
    clear hK K
    (try simp only [Act.put, List.getElem_toArray, List.getElem_cons_zero, List.getElem_cons_succ, List.setIfInBounds_toArray, List.set_cons_zero, List.set_cons_succ])
    have ch1 := chgRow w6 w.heap.size (c3 (.slice pa nf qa) (.slice pb nl qb) (.slice pc nr qc))
    have VA1 := Lib.hid (show RowH _ _ _ _ _ from Row.chg TE.out.va ch1 (.inr (by have := TE.out.low; omega)))
    have OA1 := Lib.hid (TE.out.own.chg ch1 (.inr (by omega)))
    have OB1 := Lib.hid (O6.out.chg ch1 (.inr (by have := LX.out; have := TE.out.low; omega)))
    have R11 := Lib.hid (show zrow _ (w.heap.size + 1) from Row.chg TE.out.r1 ch1 (.inr (by omega)))
    have R01 := Lib.hid (Row.put TE.out.r0 (c3 (.slice pa nf qa) (.slice pb nl qb) (.slice pc nr qc)))
    have BB1 := Lib.hid (below_setRow (g := w.heap.size) (DB.out _ _ TE.out.dv) (Nat.le_refl _) (c3 (.slice pa nf qa) (.slice pb nl qb) (.slice pc nr qc)))
    clear ch1
    refine wpAnyH_ready (rs := [3]) (by kernel_rfl) (by simp) ?_
    refine AllReadyH.cons rfl (fun K hK => ?_) AllReadyH.nil
    refine wp_store_row 30 _ _ rfl w.heap.size (c3 (.slice pa nf qa) (.slice pb nl qb) (.slice pc nr qc)) rfl rfl 30 _ TE.out.r0 info_heap rfl (by simp [Value.oneCell']) ?_
    refine hK.out _ _ ⟨VA1.out.c0, VA1.out.c1, VA1.out.c2⟩ (fun hHeld => ?_)
    clear hK K
    (try simp only [Act.put, List.getElem_toArray, List.getElem_cons_zero, List.getElem_cons_succ])
    generalize w6.setRow w.heap.size (c3 (.slice pa nf qa) (.slice pb nl qb) (.slice pc nr qc)) = z1 at *
    have ch2 := chgRow z1 (w.heap.size + 1) (c3 (.slice sa kf ua) (.slice sb kl ub) (.slice sc kr uc))
    have VA2 := Lib.hid (show RowH _ _ _ _ _ from Row.chg VA1.out ch2 (.inr (by have := TE.out.low; omega)))
    have OA2 := Lib.hid (OA1.out.chg ch2 (.inr (by omega)))
    have OB2 := Lib.hid (OB1.out.chg ch2 (.inr (by have := LX.out; have := TE.out.low; omega)))
    have R02 := Lib.hid (Row.chg R01.out ch2 (.inl (by omega)))
    have BB2 := Lib.hid (below_setRow (g := w.heap.size + 1) BB1.out (by omega) (c3 (.slice sa kf ua) (.slice sb kl ub) (.slice sc kr uc)))
    clear ch2
    refine wpAnyH_ready (rs := [4]) (by kernel_rfl) (by simp) ?_
    refine AllReadyH.cons rfl (fun K hK => ?_) AllReadyH.nil
    refine wp_store_row 30 _ _ rfl (w.heap.size + 1) (c3 (.slice sa kf ua) (.slice sb kl ub) (.slice sc kr uc)) rfl rfl 30 _ R11.out info_heap rfl (by simp [Value.oneCell']) ?_
    refine hK.out _ _ ⟨VA2.out.c0, VA2.out.c1, VA2.out.c2⟩ (fun hHeld => ?_)
    clear hK K
    (try simp only [Act.put, List.getElem_toArray, List.getElem_cons_zero, List.getElem_cons_succ])
    refine wpAnyH_done (by kernel_rfl) ?_ _
    clear hHeld
    go_wp2_with fail
    refine bodyPost_ret (res_row_row Try.results56 R02.out (Row.put R11.out (c3 (.slice sa kf ua) (.slice sb kl ub) (.slice sc kr uc))) rfl rfl Try.underlying30 rfl info_heap Try.underlying30 rfl info_heap) rfl ⟨_, _, _, h, _, _, _, h6, rfl, OA2.out.reads, OB2.out.reads, BB2.out⟩
  have d0 := TB.out.va.c0
  have d1 := TB.out.va.c1
  have d2 := TB.out.va.c2
  go_wp2_with fail
  refine (c_one (w.heap.size + 2) (0 + 200) 2 _ TB.out.dv.1 (by omega) (by omega) (by omega)).mono ?_
  rintro e w5 ⟨bo, rfl, hc5, hg5⟩
  have LW : Hid (w.heap.size + 2 < gA) := (by unfold Hid; have := TB.out.low; omega)
  have T5 := Lib.hid (TB.out.step hc5 hg5)
  have V5 := Lib.hid (show RowH _ _ _ _ _ from row_stepC VB.out (by have := LB.out; have := LW.out; omega) hg5)
  have O5 := Lib.hid (OB.out.stepC (by have := LB.out; have := LW.out; omega) hg5)
  clear hc5 hg5 d0 d1 d2
  generalize hgB : w4.heap.size = gB at *
  clear hgB
  cases bo
  · skip
    have d0 := T5.out.va.c0
    have d1 := T5.out.va.c1
    have d2 := T5.out.va.c2
    go_wp2_with fail
    clear d0 d1 d2
    have TC : Hid (Two w (((w.alloc (.cells (c3 (.slice none 0 0) (.slice none 0 0) (.slice none 0 0)) 30)).alloc (.cells (c3 (.slice none 0 0) (.slice none 0 0) (.slice none 0 0)) 30)).alloc (.cells #[(.slice va zs.length vc), .int .i64 0, .int .u64 0] 128)) w5.drew (0 + 200 + 2) gA (.slice pa nf qa) (.slice pb nl qb) (.slice pc nr qc) h) := T5.out.below (below_drew (Below.refl _ _))
    refine wp_region_held_drew (S := (fun w' => w'.cell? ⟨gA, 0, none⟩ = some (.slice pa nf qa) ∧ w'.cell? ⟨gA, 1, none⟩ = some (.slice pb nl qb) ∧ w'.cell? ⟨gA, 2, none⟩ = some (.slice pc nr qc))) (by kernel_rfl) (⟨TC.out.va.c0, TC.out.va.c1, TC.out.va.c2⟩) (fun hHeld => ?_)
    generalize w5.drew = x0 at *
    refine wpAnyH_take (i := 0) (v := ?va0x3) rfl (by kernel_rfl) (by kernel_rfl) (by kernel_rfl) (fun _ _ _ h => h) (Or.inl ⟨by rfl, ?hy0x3⟩) (by assumption) ?rest0x3
    case hy0x3 => (intro w hSw; (try dsimp only at hSw); go_simp; try with_reducible rfl)
    (try simp only [Act.put, List.getElem_toArray, List.getElem_cons_zero, List.setIfInBounds_toArray, List.set_cons_zero, List.set_cons_succ])
    refine wpAnyH_take (i := 1) (v := ?va1x4) rfl (by kernel_rfl) (by kernel_rfl) (by kernel_rfl) (fun _ _ _ h => h) (Or.inl ⟨by rfl, ?hy1x4⟩) (by assumption) ?rest1x4
    case hy1x4 => (intro w hSw; (try dsimp only at hSw); go_simp; try with_reducible rfl)
    (try simp only [Act.put, List.getElem_toArray, List.getElem_cons_zero, List.getElem_cons_succ, List.setIfInBounds_toArray, List.set_cons_zero, List.set_cons_succ])
    refine wpAnyH_ready (rs := [2]) (by kernel_rfl) (by simp) ?_
    refine AllReadyH.cons rfl (fun K hK => ?_) AllReadyH.nil
    go_simp
    refine (c_heap (w.heap.size + 2) (0 + 200 + 2) _ TC.out.dv.1 (by omega)).mono ?_
    rintro e w6 ⟨a6, b6, c6, h6, rfl, _, _, ho6, hc6, hg6⟩
    obtain ⟨⟨sa, ua, e1⟩, ⟨sb, ub, e2⟩, ⟨sc, uc, e3⟩⟩ := ho6.shapes
    subst e1 e2 e3
    generalize h6.f.length = kf at *
    generalize h6.l.length = kl at *
    generalize h6.r.length = kr at *
    have LX : Hid (gA < x0.heap.size) := TC.out.va.lt
    have TE := Lib.hid (TC.out.step hc6 hg6)
    have O6 := Lib.hid ho6
    clear ho6 hc6 hg6
    refine hK.out _ _ ⟨TE.out.va.c0, TE.out.va.c1, TE.out.va.c2⟩ (fun hHeld => ?_)
    clear hK K
    (try simp only [Act.put, List.getElem_toArray, List.getElem_cons_zero, List.getElem_cons_succ, List.setIfInBounds_toArray, List.set_cons_zero, List.set_cons_succ])
    have ch1 := chgRow w6 w.heap.size (c3 (.slice pa nf qa) (.slice pb nl qb) (.slice pc nr qc))
    have VA1 := Lib.hid (show RowH _ _ _ _ _ from Row.chg TE.out.va ch1 (.inr (by have := TE.out.low; omega)))
    have OA1 := Lib.hid (TE.out.own.chg ch1 (.inr (by omega)))
    have OB1 := Lib.hid (O6.out.chg ch1 (.inr (by have := LX.out; have := TE.out.low; omega)))
    have R11 := Lib.hid (show zrow _ (w.heap.size + 1) from Row.chg TE.out.r1 ch1 (.inr (by omega)))
    have R01 := Lib.hid (Row.put TE.out.r0 (c3 (.slice pa nf qa) (.slice pb nl qb) (.slice pc nr qc)))
    have BB1 := Lib.hid (below_setRow (g := w.heap.size) (DB.out _ _ TE.out.dv) (Nat.le_refl _) (c3 (.slice pa nf qa) (.slice pb nl qb) (.slice pc nr qc)))
    clear ch1
    refine wpAnyH_ready (rs := [3]) (by kernel_rfl) (by simp) ?_
    refine AllReadyH.cons rfl (fun K hK => ?_) AllReadyH.nil
    refine wp_store_row 30 _ _ rfl w.heap.size (c3 (.slice pa nf qa) (.slice pb nl qb) (.slice pc nr qc)) rfl rfl 30 _ TE.out.r0 info_heap rfl (by simp [Value.oneCell']) ?_
    refine hK.out _ _ ⟨VA1.out.c0, VA1.out.c1, VA1.out.c2⟩ (fun hHeld => ?_)
    clear hK K
    (try simp only [Act.put, List.getElem_toArray, List.getElem_cons_zero, List.getElem_cons_succ])
    generalize w6.setRow w.heap.size (c3 (.slice pa nf qa) (.slice pb nl qb) (.slice pc nr qc)) = z1 at *
    have ch2 := chgRow z1 (w.heap.size + 1) (c3 (.slice sa kf ua) (.slice sb kl ub) (.slice sc kr uc))
    have VA2 := Lib.hid (show RowH _ _ _ _ _ from Row.chg VA1.out ch2 (.inr (by have := TE.out.low; omega)))
    have OA2 := Lib.hid (OA1.out.chg ch2 (.inr (by omega)))
    have OB2 := Lib.hid (OB1.out.chg ch2 (.inr (by have := LX.out; have := TE.out.low; omega)))
    have R02 := Lib.hid (Row.chg R01.out ch2 (.inl (by omega)))
    have BB2 := Lib.hid (below_setRow (g := w.heap.size + 1) BB1.out (by omega) (c3 (.slice sa kf ua) (.slice sb kl ub) (.slice sc kr uc)))
    clear ch2
    refine wpAnyH_ready (rs := [4]) (by kernel_rfl) (by simp) ?_
    refine AllReadyH.cons rfl (fun K hK => ?_) AllReadyH.nil
    refine wp_store_row 30 _ _ rfl (w.heap.size + 1) (c3 (.slice sa kf ua) (.slice sb kl ub) (.slice sc kr uc)) rfl rfl 30 _ R11.out info_heap rfl (by simp [Value.oneCell']) ?_
    refine hK.out _ _ ⟨VA2.out.c0, VA2.out.c1, VA2.out.c2⟩ (fun hHeld => ?_)
    clear hK K
    (try simp only [Act.put, List.getElem_toArray, List.getElem_cons_zero, List.getElem_cons_succ])
    refine wpAnyH_done (by kernel_rfl) ?_ _
    clear hHeld
    go_wp2_with fail
    refine bodyPost_ret (res_row_row Try.results56 R02.out (Row.put R11.out (c3 (.slice sa kf ua) (.slice sb kl ub) (.slice sc kr uc))) rfl rfl Try.underlying30 rfl info_heap Try.underlying30 rfl info_heap) rfl ⟨_, _, _, h, _, _, _, h6, rfl, OA2.out.reads, OB2.out.reads, BB2.out⟩
  go_wp2_with fail
  have T6 := Lib.hid (T5.out.below (below_drew (Below.refl _ _)))
  have V6 : Hid (RowH w5.drew gB (.slice ra mf ta) (.slice rb ml tb) (.slice rc mr tc)) := V5.out
  have O6 := Lib.hid (O5.out.below (below_drew (Below.refl _ _)))
  refine wp_region_held_drew (S := (fun w' => w'.cell? ⟨gA, 0, none⟩ = some (.slice pa nf qa) ∧ w'.cell? ⟨gA, 1, none⟩ = some (.slice pb nl qb) ∧ w'.cell? ⟨gA, 2, none⟩ = some (.slice pc nr qc) ∧ w'.cell? ⟨gB, 0, none⟩ = some (.slice ra mf ta) ∧ w'.cell? ⟨gB, 1, none⟩ = some (.slice rb ml tb) ∧ w'.cell? ⟨gB, 2, none⟩ = some (.slice rc mr tc))) (by kernel_rfl) (⟨T6.out.va.c0, T6.out.va.c1, T6.out.va.c2, V6.out.c0, V6.out.c1, V6.out.c2⟩) (fun hHeld => ?_)
  generalize w5.drew = x0 at *
  refine wpAnyH_take (i := 0) (v := ?va0x5) rfl (by kernel_rfl) (by kernel_rfl) (by kernel_rfl) (fun _ _ _ h => h) (Or.inl ⟨by rfl, ?hy0x5⟩) (by assumption) ?rest0x5
  case hy0x5 => (intro w hSw; (try dsimp only at hSw); go_simp; try with_reducible rfl)
  (try simp only [Act.put, List.getElem_toArray, List.getElem_cons_zero, List.setIfInBounds_toArray, List.set_cons_zero, List.set_cons_succ])
  refine wpAnyH_take (i := 1) (v := ?va1x6) rfl (by kernel_rfl) (by kernel_rfl) (by kernel_rfl) (fun _ _ _ h => h) (Or.inl ⟨by rfl, ?hy1x6⟩) (by assumption) ?rest1x6
  case hy1x6 => (intro w hSw; (try dsimp only at hSw); go_simp; try with_reducible rfl)
  (try simp only [Act.put, List.getElem_toArray, List.getElem_cons_zero, List.getElem_cons_succ, List.setIfInBounds_toArray, List.set_cons_zero, List.set_cons_succ])
  have ch1 := chgRow x0 w.heap.size (c3 (.slice pa nf qa) (.slice pb nl qb) (.slice pc nr qc))
  have VA1 := Lib.hid (show RowH _ _ _ _ _ from Row.chg T6.out.va ch1 (.inr (by have := T6.out.low; omega)))
  have VB1 := Lib.hid (show RowH _ _ _ _ _ from Row.chg V6.out ch1 (.inr (by have := LB.out; have := T6.out.low; omega)))
  have OA1 := Lib.hid (T6.out.own.chg ch1 (.inr (by omega)))
  have OB1 := Lib.hid (O6.out.chg ch1 (.inr (by have := LB.out; have := T6.out.low; omega)))
  have R11 := Lib.hid (show zrow _ (w.heap.size + 1) from Row.chg T6.out.r1 ch1 (.inr (by omega)))
  have R01 := Lib.hid (Row.put T6.out.r0 (c3 (.slice pa nf qa) (.slice pb nl qb) (.slice pc nr qc)))
  have BB1 := Lib.hid (below_setRow (g := w.heap.size) (DB.out _ _ T6.out.dv) (Nat.le_refl _) (c3 (.slice pa nf qa) (.slice pb nl qb) (.slice pc nr qc)))
  clear ch1
  refine wpAnyH_ready (rs := [2]) (by kernel_rfl) (by simp) ?_
  refine AllReadyH.cons rfl (fun K hK => ?_) AllReadyH.nil
  refine wp_store_row 30 _ _ rfl w.heap.size (c3 (.slice pa nf qa) (.slice pb nl qb) (.slice pc nr qc)) rfl rfl 30 _ T6.out.r0 info_heap rfl (by simp [Value.oneCell']) ?_
  refine hK.out _ _ ⟨VA1.out.c0, VA1.out.c1, VA1.out.c2, VB1.out.c0, VB1.out.c1, VB1.out.c2⟩ (fun hHeld => ?_)
  clear hK K
  (try simp only [Act.put, List.getElem_toArray, List.getElem_cons_zero, List.getElem_cons_succ])
  generalize x0.setRow w.heap.size (c3 (.slice pa nf qa) (.slice pb nl qb) (.slice pc nr qc)) = z1 at *
  have ch2 := chgRow z1 (w.heap.size + 1) (c3 (.slice ra mf ta) (.slice rb ml tb) (.slice rc mr tc))
  have VA2 := Lib.hid (show RowH _ _ _ _ _ from Row.chg VA1.out ch2 (.inr (by have := T6.out.low; omega)))
  have OA2 := Lib.hid (OA1.out.chg ch2 (.inr (by omega)))
  have OB2 := Lib.hid (OB1.out.chg ch2 (.inr (by have := LB.out; have := T6.out.low; omega)))
  have R02 := Lib.hid (Row.chg R01.out ch2 (.inl (by omega)))
  have BB2 := Lib.hid (below_setRow (g := w.heap.size + 1) BB1.out (by omega) (c3 (.slice ra mf ta) (.slice rb ml tb) (.slice rc mr tc)))
  have VB2 := Lib.hid (show RowH _ _ _ _ _ from Row.chg VB1.out ch2 (.inr (by have := LB.out; have := T6.out.low; omega)))
  clear ch2
  refine wpAnyH_ready (rs := [3]) (by kernel_rfl) (by simp) ?_
  refine AllReadyH.cons rfl (fun K hK => ?_) AllReadyH.nil
  refine wp_store_row 30 _ _ rfl (w.heap.size + 1) (c3 (.slice ra mf ta) (.slice rb ml tb) (.slice rc mr tc)) rfl rfl 30 _ R11.out info_heap rfl (by simp [Value.oneCell']) ?_
  refine hK.out _ _ ⟨VA2.out.c0, VA2.out.c1, VA2.out.c2, VB2.out.c0, VB2.out.c1, VB2.out.c2⟩ (fun hHeld => ?_)
  clear hK K
  (try simp only [Act.put, List.getElem_toArray, List.getElem_cons_zero, List.getElem_cons_succ])
  refine wpAnyH_done (by kernel_rfl) ?_ _
  clear hHeld
  go_wp2_with fail
  refine bodyPost_ret (res_row_row Try.results56 R02.out (Row.put R11.out (c3 (.slice ra mf ta) (.slice rb ml tb) (.slice rc mr tc))) rfl rfl Try.underlying30 rfl info_heap Try.underlying30 rfl info_heap) rfl ⟨_, _, _, h, _, _, _, h2, rfl, OA2.out.reads, OB2.out.reads, BB2.out⟩
end Go.Proofs.Ytkkigoamphkalaa
namespace Go.Proofs.Ytkkigoamphkalaa
open Go.RowKit Ph

set_option maxHeartbeats 800000 in
theorem c_sameBools (va vb : Value) (zs : List Bool) (w : World) (hA : BoolsAt w va zs) (hB : BoolsAt w vb zs) (hm : zs.length ≤ 9223372036854775806) :
    Calls Try.prog 54 #[va, vb] w fun e w' => e = .returned (.bool true) ∧ ∃ n, w' = w.drewN n := by
  obtain ⟨a, ca, rfl, hA⟩ := hA
  obtain ⟨b, cb, rfl, hB⟩ := hB
  generalize hn : zs.length = n at *
  clear hn
  have hbq : ((n : Int) != (n : Int)) = false := by simp
  have HCA := Lib.hid hA; have HCB := Lib.hid hB; clear hA hB
  go_enter Try.func54, Try.ntmps54
  go_wp2
  go_loopw [13] (fun i wr => ∃ k : Nat, k ≤ n ∧ i = .int .i64 k ∧ ∃ n, wr = w.drewN n) (fun i _ => n - (intOf i).toNat)
  case atStart => exact ⟨0, Nat.zero_le _, rfl, drewN_refl _⟩
  case round =>
    obtain ⟨k, hk, rfl, nd, rfl⟩ := hrel
    by_cases hlt : k < n
    · obtain ⟨ba, oa, rfl, hca⟩ := HCA.out (by omega)
      obtain ⟨bb, ob, rfl, hcb⟩ := HCB.out (by omega)
      have q1 := hca k hlt
      have q2 := hcb k hlt
      have i1 : (k : Int) < (n : Int) := by omega
      clear hca hcb
      generalize zs.getD k false = x at *
      have hxx : (x != x) = false := by simp
      go_wp2
      go_quiet (fail)
      go_wp2
      go_roundw
      case rel => exact ⟨k + 1, by omega, by go_num, nd + nq, by simp⟩
      case measure => simp [intOf]; omega
    · go_wp2
      go_ret
      exact ⟨rfl, _, rfl⟩

set_option maxRecDepth 100000 in
set_option maxHeartbeats 3200000 in
theorem c_sameHeap (a b c a' b' c' : Value) (h : H) (w : World) (hA : HeapAt w a b c h) (hB : HeapAt w a' b' c' h) (h1 : h.f.length ≤ 1000) (h2 : h.l.length ≤ 1000) (h3 : h.r.length ≤ 1000) (h4 : ∀ i, (h.f.getD i []).length ≤ 1000) :
    Calls Try.prog 53 #[hv a b c, hv a' b' c'] w fun e w' => e = .returned (.bool true) ∧ Below w.heap.size w w' := by
  obtain ⟨pa, qa, rfl⟩ := hA.f.shape
  obtain ⟨pb, qb, rfl⟩ := hA.l.shape
  obtain ⟨pc, qc, rfl⟩ := hA.r.shape
  obtain ⟨pa', qa', rfl⟩ := hB.f.shape
  obtain ⟨pb', qb', rfl⟩ := hB.l.shape
  obtain ⟨pc', qc', rfl⟩ := hB.r.shape
  have HA := Lib.hid hA; have HB := Lib.hid hB; have H4 := Lib.hid h4
  have HN2 : Hid (∀ X : List Bool, X = h.l → X.length ≤ 1000) := fun X q => by rw [q]; exact h2
  have HN3 : Hid (∀ X : List Int, X = h.r → X.length ≤ 1000) := fun X q => by rw [q]; exact h3
  clear hA hB h4
  generalize h.f.length = nf at *
  generalize h.l.length = nl at *
  generalize h.r.length = nr at *
  have hb0 : Below w.heap.size w ((w.alloc (.cells (c3 (.slice pa nf qa) (.slice pb nl qb) (.slice pc nr qc)) 30)).alloc (.cells (c3 (.slice pa' nf qa') (.slice pb' nl qb') (.slice pc' nr qc')) 30)) := (below1 w (.cells (c3 (.slice pa nf qa) (.slice pb nl qb) (.slice pc nr qc)) 30)).alloc (by simp) (.cells (c3 (.slice pa' nf qa') (.slice pb' nl qb') (.slice pc' nr qc')) 30)
  have L := Lib.hid hb0
  have RA := Lib.hid (show RowH _ w.heap.size (.slice pa nf qa) (.slice pb nl qb) (.slice pc nr qc) from (Row.new w 30 (c3 (.slice pa nf qa) (.slice pb nl qb) (.slice pc nr qc))).alloc (.cells (c3 (.slice pa' nf qa') (.slice pb' nl qb') (.slice pc' nr qc')) 30))
  have RB := Lib.hid (show RowH _ (w.heap.size + 1) (.slice pa' nf qa') (.slice pb' nl qb') (.slice pc' nr qc') from Row.new1 w (.cells (c3 (.slice pa nf qa) (.slice pb nl qb) (.slice pc nr qc)) 30) 30 (c3 (.slice pa' nf qa') (.slice pb' nl qb') (.slice pc' nr qc')))
  replace HA := Lib.hid (HA.out.below hb0); replace HB := Lib.hid (HB.out.below hb0)
  clear hb0
  have hbq : ((nf : Int) != (nf : Int)) = false := by simp
  go_enter Try.func53, Try.ntmps53
  have a0 := RA.out.c0
  have a1 := RA.out.c1
  have a2 := RA.out.c2
  have b0 := RB.out.c0
  have b1 := RB.out.c1
  have b2 := RB.out.c2
  go_wp2_with fail
  refine (c_sameBools _ _ h.l _ HA.out.l HB.out.l (by have := HN2.out _ rfl; omega)).mono ?_
  rintro e w1 ⟨rfl, nd1, hw1⟩
  have hb1 : Below ((w.alloc (.cells (c3 (.slice pa nf qa) (.slice pb nl qb) (.slice pc nr qc)) 30)).alloc (.cells (c3 (.slice pa' nf qa') (.slice pb' nl qb') (.slice pc' nr qc')) 30)).heap.size ((w.alloc (.cells (c3 (.slice pa nf qa) (.slice pb nl qb) (.slice pc nr qc)) 30)).alloc (.cells (c3 (.slice pa' nf qa') (.slice pb' nl qb') (.slice pc' nr qc')) 30)) w1 := by rw [hw1]; exact below_drewN (Below.refl _ _) nd1
  replace L := Lib.hid (bst L.out hb1 L.out.size); replace RA := Lib.hid (RA.out.below hb1); replace RB := Lib.hid (RB.out.below hb1); replace HA := Lib.hid (HA.out.below hb1); replace HB := Lib.hid (HB.out.below hb1)
  clear a0 a1 a2 b0 b1 b2 hb1 hw1 nd1
  have a0 := RA.out.c0
  have a1 := RA.out.c1
  have a2 := RA.out.c2
  have b0 := RB.out.c0
  have b1 := RB.out.c1
  have b2 := RB.out.c2
  go_wp2_with fail
  refine (c_sameInts _ _ h.r h.r _ HA.out.r HB.out.r (by have := HN3.out _ rfl; omega)).mono ?_
  rintro e w2 ⟨hre, nd2, hw2⟩
  rw [decide_eq_true rfl] at hre
  subst hre
  have hb1 : Below w1.heap.size w1 w2 := by rw [hw2]; exact below_drewN (Below.refl _ _) nd2
  replace L := Lib.hid (bst L.out hb1 L.out.size); replace RA := Lib.hid (RA.out.below hb1); replace RB := Lib.hid (RB.out.below hb1); replace HA := Lib.hid (HA.out.below hb1); replace HB := Lib.hid (HB.out.below hb1)
  clear a0 a1 a2 b0 b1 b2 hb1 hw2 nd2
  have a0 := RA.out.c0
  have b0 := RB.out.c0
  go_wp2_with fail
  clear a0 b0
  go_loopw [32] (fun i wr => ∃ k : Nat, k ≤ nf ∧ i = .int .i64 (k : Int) ∧ Hid (Below w2.heap.size w2 wr)) (fun i _ => nf - (intOf i).toNat)
  case atStart => exact ⟨0, Nat.zero_le _, rfl, Below.refl _ _⟩
  case round =>
    obtain ⟨k, hk, rfl, hbw⟩ := hrel
    by_cases hlt : k < nf
    · have HA' := HA.out.below hbw.out; have HB' := HB.out.below hbw.out
      obtain ⟨fb, fo, rfl, hcf⟩ := HA'.f.at' (by omega)
      obtain ⟨u, quf, huf⟩ := hcf k hlt
      obtain ⟨fb', fo', rfl, hcf'⟩ := HB'.f.at' (by omega)
      obtain ⟨u', quf', huf'⟩ := hcf' k hlt
      obtain ⟨ua, uc, rfl⟩ := huf.shape
      obtain ⟨ua', uc', rfl⟩ := huf'.shape
      have RA1 := RA.out.below hbw.out; have RB1 := RB.out.below hbw.out
      have h4k := H4.out k
      have HU := Lib.hid huf; have HU' := Lib.hid huf'; have H4K := Lib.hid h4k
      have i1 : (k : Int) < (nf : Int) := by omega
      have i0 : (0 : Int) ≤ (k : Int) := by omega
      clear hcf hcf' huf huf' HA' HB' h4k
      generalize h.f.getD k [] = row at *
      generalize hul : row.length = ul at *
      have HUL := Lib.hid hul; clear hul
      have d0 : wr.drew.cell? ⟨w.heap.size, 0, none⟩ = some _ := RA1.c0
      have d1 : wr.drew.cell? ⟨w.heap.size + 1, 0, none⟩ = some _ := RB1.c0
      have d2 : wr.drew.cell? ⟨fb, fo + k, none⟩ = some _ := quf
      have d3 : wr.drew.cell? ⟨fb', fo' + k, none⟩ = some _ := quf'
      have BD := Lib.hid (below_drew (Below.refl wr.heap.size wr))
      have U1 := Lib.hid (HU.out.below BD.out); have U2 := Lib.hid (HU'.out.below BD.out)
      clear RA1 RB1 quf quf'
      go_wp2_with fail
      refine wp_region_held_drew (S := (fun w' => w'.cell? ⟨w.heap.size, 0, none⟩ = some (.slice (some ⟨fb, fo, none⟩) nf qa) ∧ w'.cell? ⟨w.heap.size + 1, 0, none⟩ = some (.slice (some ⟨fb', fo', none⟩) nf qa') ∧ w'.cell? ⟨fb, fo + k, none⟩ = some (.slice ua ul uc) ∧ w'.cell? ⟨fb', fo' + k, none⟩ = some (.slice ua' ul uc'))) (by kernel_rfl) (⟨d0, d1, d2, d3⟩) (fun hHeld => ?_)
      refine wpAnyH_take (i := 0) (v := ?va0x1) rfl (by kernel_rfl) (by kernel_rfl) (by kernel_rfl) (fun _ _ _ h => h) (Or.inl ⟨by rfl, ?hy0x1⟩) (by assumption) ?rest0x1
      case hy0x1 => (intro w hSw; (try dsimp only at hSw); go_simp; try with_reducible rfl)
      (try simp only [Act.put, List.getElem_toArray, List.getElem_cons_zero, List.setIfInBounds_toArray, List.set_cons_zero, List.set_cons_succ])
      refine wpAnyH_take (i := 1) (v := ?va1x2) rfl (by kernel_rfl) (by kernel_rfl) (by kernel_rfl) (fun _ _ _ h => h) (Or.inl ⟨by rfl, ?hy1x2⟩) (by assumption) ?rest1x2
      case hy1x2 => (intro w hSw; (try dsimp only at hSw); go_simp; try with_reducible rfl)
      (try simp only [Act.put, List.getElem_toArray, List.getElem_cons_zero, List.getElem_cons_succ, List.setIfInBounds_toArray, List.set_cons_zero, List.set_cons_succ])
      refine wpAnyH_take (i := 2) (v := ?va2x3) rfl (by kernel_rfl) (by kernel_rfl) (by kernel_rfl) (fun _ _ _ h => h) (Or.inl ⟨by rfl, ?hy2x3⟩) (by assumption) ?rest2x3
      case hy2x3 => (intro w hSw; (try dsimp only at hSw); go_simp; try with_reducible rfl)
      (try simp only [Act.put, List.getElem_toArray, List.getElem_cons_zero, List.getElem_cons_succ, List.setIfInBounds_toArray, List.set_cons_zero, List.set_cons_succ])
      refine wpAnyH_take (i := 3) (v := ?va3x4) rfl (by kernel_rfl) (by kernel_rfl) (by kernel_rfl) (fun _ _ _ h => h) (Or.inl ⟨by rfl, ?hy3x4⟩) (by assumption) ?rest3x4
      case hy3x4 => (intro w hSw; (try dsimp only at hSw); go_simp; try with_reducible rfl)
      (try simp only [Act.put, List.getElem_toArray, List.getElem_cons_zero, List.getElem_cons_succ, List.setIfInBounds_toArray, List.set_cons_zero, List.set_cons_succ])
      refine wpAnyH_take (i := 4) (v := ?va4x5) rfl (by kernel_rfl) (by kernel_rfl) (by kernel_rfl) (fun _ _ _ h => h) (Or.inl ⟨by rfl, ?hy4x5⟩) (by assumption) ?rest4x5
      case hy4x5 => (intro w hSw; (try dsimp only at hSw); go_simp; try with_reducible rfl)
      (try simp only [Act.put, List.getElem_toArray, List.getElem_cons_zero, List.getElem_cons_succ, List.setIfInBounds_toArray, List.set_cons_zero, List.set_cons_succ])
      refine wpAnyH_take (i := 5) (v := ?va5x6) rfl (by kernel_rfl) (by kernel_rfl) (by kernel_rfl) (fun _ _ _ h => h) (Or.inl ⟨by rfl, ?hy5x6⟩) (by assumption) ?rest5x6
      case hy5x6 => (intro w hSw; (try dsimp only at hSw); go_simp; try with_reducible rfl)
      (try simp only [Act.put, List.getElem_toArray, List.getElem_cons_zero, List.getElem_cons_succ, List.setIfInBounds_toArray, List.set_cons_zero, List.set_cons_succ])
      refine wpAnyH_take (i := 6) (v := ?va6x7) rfl (by kernel_rfl) (by kernel_rfl) (by kernel_rfl) (fun _ _ _ h => h) (Or.inl ⟨by rfl, ?hy6x7⟩) (by assumption) ?rest6x7
      case hy6x7 => (intro w hSw; (try dsimp only at hSw); go_simp; try with_reducible rfl)
      (try simp only [Act.put, List.getElem_toArray, List.getElem_cons_zero, List.getElem_cons_succ, List.setIfInBounds_toArray, List.set_cons_zero, List.set_cons_succ])
      refine wpAnyH_take (i := 7) (v := ?va7x8) rfl (by kernel_rfl) (by kernel_rfl) (by kernel_rfl) (fun _ _ _ h => h) (Or.inl ⟨by rfl, ?hy7x8⟩) (by assumption) ?rest7x8
      case hy7x8 => (intro w hSw; (try dsimp only at hSw); go_simp; try with_reducible rfl)
      (try simp only [Act.put, List.getElem_toArray, List.getElem_cons_zero, List.getElem_cons_succ, List.setIfInBounds_toArray, List.set_cons_zero, List.set_cons_succ])
      refine wpAnyH_take (i := 8) (v := ?va8x9) rfl (by kernel_rfl) (by kernel_rfl) (by kernel_rfl) (fun _ _ _ h => h) (Or.inl ⟨by rfl, ?hy8x9⟩) (by assumption) ?rest8x9
      case hy8x9 => (intro w hSw; (try dsimp only at hSw); go_simp; try with_reducible rfl)
      (try simp only [Act.put, List.getElem_toArray, List.getElem_cons_zero, List.getElem_cons_succ, List.setIfInBounds_toArray, List.set_cons_zero, List.set_cons_succ])
      refine wpAnyH_take (i := 9) (v := ?va9x10) rfl (by kernel_rfl) (by kernel_rfl) (by kernel_rfl) (fun _ _ _ h => h) (Or.inl ⟨by rfl, ?hy9x10⟩) (by assumption) ?rest9x10
      case hy9x10 => (intro w hSw; (try dsimp only at hSw); go_simp; try with_reducible rfl)
      (try simp only [Act.put, List.getElem_toArray, List.getElem_cons_zero, List.getElem_cons_succ, List.setIfInBounds_toArray, List.set_cons_zero, List.set_cons_succ])
      refine wpAnyH_ready (rs := [10]) (by kernel_rfl) (by simp) ?_
      refine AllReadyH.cons rfl (fun K hK => ?_) AllReadyH.nil
      go_simp
      refine (c_sameInts _ _ row row _ U1.out U2.out (by rw [HUL.out]; have := H4K.out; omega)).mono ?_
      rintro e w5 ⟨hre, nd, hw5⟩
      rw [decide_eq_true rfl] at hre
      subst hre
      have hb5 : Below wr.drew.heap.size wr.drew w5 := by rw [hw5]; exact below_drewN (Below.refl _ _) nd
      clear hw5 nd
      refine hK.out _ _ (⟨cellBelow hb5 (Nat.le_refl _) d0, cellBelow hb5 (Nat.le_refl _) d1, cellBelow hb5 (Nat.le_refl _) d2, cellBelow hb5 (Nat.le_refl _) d3⟩) (fun hHeld => ?_)
      clear hK K
      (try simp only [Act.put, List.getElem_toArray, List.getElem_cons_zero, List.getElem_cons_succ, List.setIfInBounds_toArray, List.set_cons_zero, List.set_cons_succ])
      refine wpAnyH_take (i := 11) (v := ?va11x11) rfl (by kernel_rfl) (by kernel_rfl) (by kernel_rfl) (fun _ _ _ h => h) (Or.inl ⟨by rfl, ?hy11x11⟩) (by assumption) ?rest11x11
      case hy11x11 => (intro w hSw; (try dsimp only at hSw); go_simp; try with_reducible rfl)
      (try simp only [Act.put, List.getElem_toArray, List.getElem_cons_zero, List.getElem_cons_succ, List.setIfInBounds_toArray, List.set_cons_zero, List.set_cons_succ])
      refine wpAnyH_done (by kernel_rfl) ?_ _
      have HB5 : Hid (Below w2.heap.size w2 w5) := bst (bst hbw.out BD.out hbw.out.size) hb5 (bst hbw.out BD.out hbw.out.size).size
      clear hHeld d0 d1 d2 d3 hb5
      go_wp2_with fail
      go_roundw
      case rel => exact ⟨k + 1, by omega, by go_num, HB5⟩
      case measure => simp [intOf]; omega
    · have i1 : ¬ (k : Int) < (nf : Int) := by omega
      go_wp2_with fail
      go_ret
      exact ⟨rfl, bst L.out hbw.out L.out.size⟩
end Go.Proofs.Ytkkigoamphkalaa
namespace Go.Proofs.Ytkkigoamphkalaa.Ph
def sfB (a b : H) (ts : List Bool) (n : Nat) : Bool := (List.range n).all fun k => !(ts.getD k false) || (liveB b.l (k : Int) && decide (a.f.getD k [] = b.f.getD k []))
theorem sfB_succ {a b : H} {ts : List Bool} {n : Nat} : sfB a b ts (n + 1) = (sfB a b ts n && (!(ts.getD n false) || (liveB b.l (n : Int) && decide (a.f.getD n [] = b.f.getD n [])))) := by simp [sfB, List.range_succ]
theorem sfB_false {a b : H} {ts : List Bool} {n k : Nat} (h : k < n) (hn : (!(ts.getD k false) || (liveB b.l (k : Int) && decide (a.f.getD k [] = b.f.getD k []))) = false) : sfB a b ts n = false := by
  cases hq : sfB a b ts n with
  | false => rfl
  | true =>
    have := (List.all_eq_true.1 hq) k (by simpa using h)
    rw [hn] at this; cases this
end Go.Proofs.Ytkkigoamphkalaa.Ph
namespace Go.Proofs.Ytkkigoamphkalaa
open Go.RowKit Ph

set_option maxRecDepth 100000 in
set_option maxHeartbeats 6400000 in
theorem c_sameFields (a1 b1 c1 a2 b2 c2 tv : Value) (x y : H) (ts : List Bool) (w : World) (hA : HeapAt w a1 b1 c1 x) (hB : HeapAt w a2 b2 c2 y) (hT : BoolsAt w tv ts) (hgx : Ph.Good x) (hgy : Ph.Good y) (htl : ts.length = x.f.length) :
    Calls Try.prog 98 #[hv a1 b1 c1, hv a2 b2 c2, tv] w fun e w' => e = .returned (.bool (sfB x y ts x.f.length)) ∧ Below w.heap.size w w' := by
  have hb0 := (below1 w (.cells (c3 a1 b1 c1) 30)).alloc (by simp) (.cells (c3 a2 b2 c2) 30)
  have A0 := Lib.hid (hA.below hb0); have B0 := Lib.hid (hB.below hb0); have T0 := Lib.hid (hT.below hb0)
  have HB := Lib.hid hb0
  have P0 := Lib.hid (show RowH _ _ a1 b1 c1 from (Row.new w 30 (c3 a1 b1 c1)).alloc (.cells (c3 a2 b2 c2) 30))
  have Q0 := Lib.hid (show RowH _ (w.heap.size + 1) a2 b2 c2 from Row.new1 w (.cells (c3 a1 b1 c1) 30) 30 (c3 a2 b2 c2))
  have GX := Lib.hid hgx; have GY := Lib.hid hgy
  obtain ⟨fa, fc, rfl⟩ := hA.f.shape
  obtain ⟨ga, gc, rfl⟩ := hB.f.shape
  obtain ⟨la, lc, rfl⟩ := hB.l.shape
  obtain ⟨ra, rc, rfl⟩ := hB.r.shape
  obtain ⟨ta, tc, rfl⟩ := hT.shape
  rw [htl] at T0 ⊢
  have HTL := Lib.hid htl
  have hn12 := hgx.n
  have HLY : Hid (y.l.length = y.f.length) := hgy.ll
  clear hA hB hT hgx hgy hb0 htl
  generalize hn : x.f.length = n at *
  generalize hm : y.f.length = m at *
  generalize hml : y.l.length = ml at *
  generalize hmr : y.r.length = mr at *
  have HN := Lib.hid hn; have HM := Lib.hid hm; have HML := Lib.hid hml
  clear hn hm hml hmr
  go_enter Try.func98, Try.ntmps98
  go_wp2_with fail
  generalize ((w.alloc (.cells (c3 (.slice fa n fc) b1 c1) 30)).alloc (.cells (c3 (.slice ga m gc) (.slice la ml lc) (.slice ra mr rc)) 30)) = w0 at *
  go_loopw [11] (fun i wr => ∃ k : Nat, k ≤ n ∧ i = .int .i64 k ∧ Hid (sfB x y ts k = true) ∧ Below w0.heap.size w0 wr) (fun i _ => n - (intOf i).toNat)
  case atStart => exact ⟨0, Nat.zero_le _, rfl, by simp [Hid, sfB], Below.refl _ _⟩
  case round =>
    obtain ⟨k, hk, rfl, ht, hbr⟩ := hrel
    have BW := Lib.hid (bst HB.out hbr HB.out.size)
    have HBR := Lib.hid hbr
    by_cases hlt : k < n
    · have A1 := Lib.hid (A0.out.below hbr); have B1 := Lib.hid (B0.out.below hbr); have T1 := Lib.hid (T0.out.below hbr); have P1 := Lib.hid (P0.out.below hbr); have Q1 := Lib.hid (Q0.out.below hbr)
      obtain ⟨gt, ot, rfl, hct⟩ := T1.out.at' (by omega)
      have qt := hct k hlt
      have i1 : (k : Int) < (n : Int) := by omega
      have j1 : (0 : Int) ≤ (k : Int) := by omega
      have hs := sfB_succ (a := x) (b := y) (ts := ts) (n := k)
      rw [ht.out, Bool.true_and] at hs
      have hf := sfB_false (a := x) (b := y) (ts := ts) (n := n) (k := k) hlt
      obtain ⟨gf, of, rfl, hcf⟩ := A1.out.f.at' (by omega)
      obtain ⟨u, qu, hu⟩ := hcf k hlt
      obtain ⟨ua, uc, hus⟩ := hu.shape
      have HU := Lib.hid hu
      subst hus
      have hlx := (GX.out.row k (by rw [HN.out]; exact hlt)).1
      have HS := Lib.hid hs; have HF := Lib.hid hf; have HLX := Lib.hid hlx
      clear hct hcf hu hs hf hbr hlx
      generalize ts.getD k false = on at *
      cases on
      · have HE : Hid (sfB x y ts (k + 1) = true) := by unfold Hid; rw [HS.out]; rfl
        go_wp2_with fail
        have BD := below_drew (Below.refl wr.heap.size wr)
        refine wp_region_held_drew (S := (fun _ => True)) (by kernel_rfl) (trivial) (fun hHeld => ?_)
        refine wpAnyH_take (i := 0) (v := ?va0x1) rfl (by kernel_rfl) (by kernel_rfl) (by kernel_rfl) (fun _ _ _ h => h) (Or.inl ⟨by rfl, ?hy0x1⟩) (by assumption) ?rest0x1
        case hy0x1 => (intro w hSw; (try dsimp only at hSw); go_simp; try with_reducible rfl)
        (try simp only [Act.put, List.getElem_toArray, List.getElem_cons_zero, List.setIfInBounds_toArray, List.set_cons_zero, List.set_cons_succ])
        refine wpAnyH_take (i := 1) (v := ?va1x2) rfl (by kernel_rfl) (by kernel_rfl) (by kernel_rfl) (fun _ _ _ h => h) (Or.inl ⟨by rfl, ?hy1x2⟩) (by assumption) ?rest1x2
        case hy1x2 => (intro w hSw; (try dsimp only at hSw); go_simp; try with_reducible rfl)
        (try simp only [Act.put, List.getElem_toArray, List.getElem_cons_zero, List.getElem_cons_succ, List.setIfInBounds_toArray, List.set_cons_zero, List.set_cons_succ])
        refine wpAnyH_take (i := 2) (v := undef) rfl (by kernel_rfl) (by kernel_rfl) (by kernel_rfl) (fun _ _ _ h => h) (Or.inr ⟨by rfl, rfl⟩) (by assumption) ?_
        (try simp only [Act.put, List.getElem_toArray, List.getElem_cons_zero, List.getElem_cons_succ, List.setIfInBounds_toArray, List.set_cons_zero, List.set_cons_succ])
        refine wpAnyH_take (i := 3) (v := undef) rfl (by kernel_rfl) (by kernel_rfl) (by kernel_rfl) (fun _ _ _ h => h) (Or.inr ⟨by rfl, rfl⟩) (by assumption) ?_
        (try simp only [Act.put, List.getElem_toArray, List.getElem_cons_zero, List.getElem_cons_succ, List.setIfInBounds_toArray, List.set_cons_zero, List.set_cons_succ])
        refine wpAnyH_take (i := 4) (v := undef) rfl (by kernel_rfl) (by kernel_rfl) (by kernel_rfl) (fun _ _ _ h => h) (Or.inr ⟨by rfl, rfl⟩) (by assumption) ?_
        (try simp only [Act.put, List.getElem_toArray, List.getElem_cons_zero, List.getElem_cons_succ, List.setIfInBounds_toArray, List.set_cons_zero, List.set_cons_succ])
        refine wpAnyH_take (i := 5) (v := undef) rfl (by kernel_rfl) (by kernel_rfl) (by kernel_rfl) (fun _ _ _ h => h) (Or.inr ⟨by rfl, rfl⟩) (by assumption) ?_
        (try simp only [Act.put, List.getElem_toArray, List.getElem_cons_zero, List.getElem_cons_succ, List.setIfInBounds_toArray, List.set_cons_zero, List.set_cons_succ])
        refine wpAnyH_take (i := 6) (v := undef) rfl (by kernel_rfl) (by kernel_rfl) (by kernel_rfl) (fun _ _ _ h => h) (Or.inr ⟨by rfl, rfl⟩) (by assumption) ?_
        (try simp only [Act.put, List.getElem_toArray, List.getElem_cons_zero, List.getElem_cons_succ, List.setIfInBounds_toArray, List.set_cons_zero, List.set_cons_succ])
        refine wpAnyH_take (i := 7) (v := undef) rfl (by kernel_rfl) (by kernel_rfl) (by kernel_rfl) (fun _ _ _ h => h) (Or.inr ⟨by rfl, rfl⟩) (by assumption) ?_
        (try simp only [Act.put, List.getElem_toArray, List.getElem_cons_zero, List.getElem_cons_succ, List.setIfInBounds_toArray, List.set_cons_zero, List.set_cons_succ])
        refine wpAnyH_take (i := 8) (v := undef) rfl (by kernel_rfl) (by kernel_rfl) (by kernel_rfl) (fun _ _ _ h => h) (Or.inr ⟨by rfl, rfl⟩) (by assumption) ?_
        (try simp only [Act.put, List.getElem_toArray, List.getElem_cons_zero, List.getElem_cons_succ, List.setIfInBounds_toArray, List.set_cons_zero, List.set_cons_succ])
        refine wpAnyH_take (i := 9) (v := undef) rfl (by kernel_rfl) (by kernel_rfl) (by kernel_rfl) (fun _ _ _ h => h) (Or.inr ⟨by rfl, rfl⟩) (by assumption) ?_
        (try simp only [Act.put, List.getElem_toArray, List.getElem_cons_zero, List.getElem_cons_succ, List.setIfInBounds_toArray, List.set_cons_zero, List.set_cons_succ])
        refine wpAnyH_take (i := 10) (v := undef) rfl (by kernel_rfl) (by kernel_rfl) (by kernel_rfl) (fun _ _ _ h => h) (Or.inr ⟨by rfl, rfl⟩) (by assumption) ?_
        (try simp only [Act.put, List.getElem_toArray, List.getElem_cons_zero, List.getElem_cons_succ, List.setIfInBounds_toArray, List.set_cons_zero, List.set_cons_succ])
        refine wpAnyH_take (i := 11) (v := undef) rfl (by kernel_rfl) (by kernel_rfl) (by kernel_rfl) (fun _ _ _ h => h) (Or.inr ⟨by rfl, rfl⟩) (by assumption) ?_
        (try simp only [Act.put, List.getElem_toArray, List.getElem_cons_zero, List.getElem_cons_succ, List.setIfInBounds_toArray, List.set_cons_zero, List.set_cons_succ])
        refine wpAnyH_take (i := 12) (v := undef) rfl (by kernel_rfl) (by kernel_rfl) (by kernel_rfl) (fun _ _ _ h => h) (Or.inr ⟨by rfl, rfl⟩) (by assumption) ?_
        (try simp only [Act.put, List.getElem_toArray, List.getElem_cons_zero, List.getElem_cons_succ, List.setIfInBounds_toArray, List.set_cons_zero, List.set_cons_succ])
        refine wpAnyH_take (i := 13) (v := undef) rfl (by kernel_rfl) (by kernel_rfl) (by kernel_rfl) (fun _ _ _ h => h) (Or.inr ⟨by rfl, rfl⟩) (by assumption) ?_
        (try simp only [Act.put, List.getElem_toArray, List.getElem_cons_zero, List.getElem_cons_succ, List.setIfInBounds_toArray, List.set_cons_zero, List.set_cons_succ])
        refine wpAnyH_take (i := 14) (v := undef) rfl (by kernel_rfl) (by kernel_rfl) (by kernel_rfl) (fun _ _ _ h => h) (Or.inr ⟨by rfl, rfl⟩) (by assumption) ?_
        (try simp only [Act.put, List.getElem_toArray, List.getElem_cons_zero, List.getElem_cons_succ, List.setIfInBounds_toArray, List.set_cons_zero, List.set_cons_succ])
        refine wpAnyH_take (i := 15) (v := undef) rfl (by kernel_rfl) (by kernel_rfl) (by kernel_rfl) (fun _ _ _ h => h) (Or.inr ⟨by rfl, rfl⟩) (by assumption) ?_
        (try simp only [Act.put, List.getElem_toArray, List.getElem_cons_zero, List.getElem_cons_succ, List.setIfInBounds_toArray, List.set_cons_zero, List.set_cons_succ])
        refine wpAnyH_take (i := 16) (v := undef) rfl (by kernel_rfl) (by kernel_rfl) (by kernel_rfl) (fun _ _ _ h => h) (Or.inr ⟨by rfl, rfl⟩) (by assumption) ?_
        (try simp only [Act.put, List.getElem_toArray, List.getElem_cons_zero, List.getElem_cons_succ, List.setIfInBounds_toArray, List.set_cons_zero, List.set_cons_succ])
        refine wpAnyH_take (i := 17) (v := undef) rfl (by kernel_rfl) (by kernel_rfl) (by kernel_rfl) (fun _ _ _ h => h) (Or.inr ⟨by rfl, rfl⟩) (by assumption) ?_
        (try simp only [Act.put, List.getElem_toArray, List.getElem_cons_zero, List.getElem_cons_succ, List.setIfInBounds_toArray, List.set_cons_zero, List.set_cons_succ])
        refine wpAnyH_take (i := 18) (v := undef) rfl (by kernel_rfl) (by kernel_rfl) (by kernel_rfl) (fun _ _ _ h => h) (Or.inr ⟨by rfl, rfl⟩) (by assumption) ?_
        (try simp only [Act.put, List.getElem_toArray, List.getElem_cons_zero, List.getElem_cons_succ, List.setIfInBounds_toArray, List.set_cons_zero, List.set_cons_succ])
        refine wpAnyH_take (i := 19) (v := undef) rfl (by kernel_rfl) (by kernel_rfl) (by kernel_rfl) (fun _ _ _ h => h) (Or.inr ⟨by rfl, rfl⟩) (by assumption) ?_
        (try simp only [Act.put, List.getElem_toArray, List.getElem_cons_zero, List.getElem_cons_succ, List.setIfInBounds_toArray, List.set_cons_zero, List.set_cons_succ])
        refine wpAnyH_take (i := 20) (v := ?va20x3) rfl (by kernel_rfl) (by kernel_rfl) (by kernel_rfl) (fun _ _ _ h => h) (Or.inl ⟨by rfl, ?hy20x3⟩) (by assumption) ?rest20x3
        case hy20x3 => (intro w hSw; (try dsimp only at hSw); go_simp; try with_reducible rfl)
        (try simp only [Act.put, List.getElem_toArray, List.getElem_cons_zero, List.getElem_cons_succ, List.setIfInBounds_toArray, List.set_cons_zero, List.set_cons_succ])
        refine wpAnyH_done (by kernel_rfl) ?_ _
        go_wp2_with fail
        go_roundw
        case rel => exact ⟨k + 1, by omega, by go_num, HE, bst HBR.out BD HBR.out.size⟩
        case measure => simp [intOf]; omega
      · have d0 : wr.drew.cell? ⟨w.heap.size, 0, none⟩ = some (.slice (some ⟨gf, of, none⟩) n fc) := P1.out.c0
        have e0 : wr.drew.cell? ⟨w.heap.size + 1, 0, none⟩ = some (.slice ga m gc) := Q1.out.c0
        have e1 : wr.drew.cell? ⟨w.heap.size + 1, 1, none⟩ = some (.slice la ml lc) := Q1.out.c1
        have e2 : wr.drew.cell? ⟨w.heap.size + 1, 2, none⟩ = some (.slice ra mr rc) := Q1.out.c2
        have BD := below_drew (Below.refl wr.heap.size wr)
        have hin : liveB y.l (k : Int) = true → k < m := fun h => by have h1 := live_inR GY.out h; rw [HM.out] at h1; omega
        generalize hx : liveB y.l (k : Int) = lv at *
        have HX := Lib.hid hx
        clear hx
        cases lv
        · have HE : Hid (sfB x y ts n = false) := HF.out rfl
          clear hin
          go_wp2_with fail
          refine wp_region_held_drew (S := (fun w' => w'.cell? ⟨w.heap.size, 0, none⟩ = some (.slice (some ⟨gf, of, none⟩) n fc) ∧ w'.cell? ⟨w.heap.size + 1, 0, none⟩ = some (.slice ga m gc) ∧ w'.cell? ⟨w.heap.size + 1, 1, none⟩ = some (.slice la ml lc) ∧ w'.cell? ⟨w.heap.size + 1, 2, none⟩ = some (.slice ra mr rc) ∧ Below wr.heap.size wr w')) (by kernel_rfl) (⟨d0, e0, e1, e2, BD⟩) (fun hHeld => ?_)
          refine wpAnyH_take (i := 0) (v := ?va0x4) rfl (by kernel_rfl) (by kernel_rfl) (by kernel_rfl) (fun _ _ _ h => h) (Or.inl ⟨by rfl, ?hy0x4⟩) (by assumption) ?rest0x4
          case hy0x4 => (intro w hSw; (try dsimp only at hSw); go_simp; try with_reducible rfl)
          (try simp only [Act.put, List.getElem_toArray, List.getElem_cons_zero, List.setIfInBounds_toArray, List.set_cons_zero, List.set_cons_succ])
          refine wpAnyH_take (i := 1) (v := ?va1x5) rfl (by kernel_rfl) (by kernel_rfl) (by kernel_rfl) (fun _ _ _ h => h) (Or.inl ⟨by rfl, ?hy1x5⟩) (by assumption) ?rest1x5
          case hy1x5 => (intro w hSw; (try dsimp only at hSw); go_simp; try with_reducible rfl)
          (try simp only [Act.put, List.getElem_toArray, List.getElem_cons_zero, List.getElem_cons_succ, List.setIfInBounds_toArray, List.set_cons_zero, List.set_cons_succ])
          refine wpAnyH_take (i := 2) (v := ?va2x6) rfl (by kernel_rfl) (by kernel_rfl) (by kernel_rfl) (fun _ _ _ h => h) (Or.inl ⟨by rfl, ?hy2x6⟩) (by assumption) ?rest2x6
          case hy2x6 => (intro w hSw; (try dsimp only at hSw); go_simp; try with_reducible rfl)
          (try simp only [Act.put, List.getElem_toArray, List.getElem_cons_zero, List.getElem_cons_succ, List.setIfInBounds_toArray, List.set_cons_zero, List.set_cons_succ])
          refine wpAnyH_take (i := 3) (v := ?va3x7) rfl (by kernel_rfl) (by kernel_rfl) (by kernel_rfl) (fun _ _ _ h => h) (Or.inl ⟨by rfl, ?hy3x7⟩) (by assumption) ?rest3x7
          case hy3x7 => (intro w hSw; (try dsimp only at hSw); go_simp; try with_reducible rfl)
          (try simp only [Act.put, List.getElem_toArray, List.getElem_cons_zero, List.getElem_cons_succ, List.setIfInBounds_toArray, List.set_cons_zero, List.set_cons_succ])
          refine wpAnyH_ready (rs := [4]) (by kernel_rfl) (by simp) ?_
          refine AllReadyH.cons rfl (fun K hK => ?_) AllReadyH.nil
          go_simp
          refine (c_isLive _ _ _ y.l k _ (B1.out.l.below BD)).mono ?_
          rintro e w2 ⟨rfl, hb2⟩
          rw [HX.out]
          have hbx := bst BD hb2 BD.size
          replace d0 := cellBelow hb2 (Nat.le_refl _) d0
          replace e0 := cellBelow hb2 (Nat.le_refl _) e0
          replace e1 := cellBelow hb2 (Nat.le_refl _) e1
          replace e2 := cellBelow hb2 (Nat.le_refl _) e2
          refine hK.out _ _ ⟨d0, e0, e1, e2, hbx⟩ (fun hHeld => ?_)
          clear hK K
          (try simp only [Act.put, List.getElem_toArray, List.getElem_cons_zero, List.getElem_cons_succ, List.setIfInBounds_toArray, List.set_cons_zero, List.set_cons_succ])
          refine wpAnyH_take (i := 5) (v := ?va5x8) rfl (by kernel_rfl) (by kernel_rfl) (by kernel_rfl) (fun _ _ _ h => h) (Or.inl ⟨by rfl, ?hy5x8⟩) (by assumption) ?rest5x8
          case hy5x8 => (intro w hSw; (try dsimp only at hSw); go_simp; try with_reducible rfl)
          (try simp only [Act.put, List.getElem_toArray, List.getElem_cons_zero, List.getElem_cons_succ, List.setIfInBounds_toArray, List.set_cons_zero, List.set_cons_succ])
          refine wpAnyH_take (i := 6) (v := ?va6x9) rfl (by kernel_rfl) (by kernel_rfl) (by kernel_rfl) (fun _ _ _ h => h) (Or.inl ⟨by rfl, ?hy6x9⟩) (by assumption) ?rest6x9
          case hy6x9 => (intro w hSw; (try dsimp only at hSw); go_simp; try with_reducible rfl)
          (try simp only [Act.put, List.getElem_toArray, List.getElem_cons_zero, List.getElem_cons_succ, List.setIfInBounds_toArray, List.set_cons_zero, List.set_cons_succ])
          refine wpAnyH_take (i := 7) (v := undef) rfl (by kernel_rfl) (by kernel_rfl) (by kernel_rfl) (fun _ _ _ h => h) (Or.inr ⟨by rfl, rfl⟩) (by assumption) ?_
          (try simp only [Act.put, List.getElem_toArray, List.getElem_cons_zero, List.getElem_cons_succ, List.setIfInBounds_toArray, List.set_cons_zero, List.set_cons_succ])
          refine wpAnyH_take (i := 8) (v := undef) rfl (by kernel_rfl) (by kernel_rfl) (by kernel_rfl) (fun _ _ _ h => h) (Or.inr ⟨by rfl, rfl⟩) (by assumption) ?_
          (try simp only [Act.put, List.getElem_toArray, List.getElem_cons_zero, List.getElem_cons_succ, List.setIfInBounds_toArray, List.set_cons_zero, List.set_cons_succ])
          refine wpAnyH_take (i := 9) (v := undef) rfl (by kernel_rfl) (by kernel_rfl) (by kernel_rfl) (fun _ _ _ h => h) (Or.inr ⟨by rfl, rfl⟩) (by assumption) ?_
          (try simp only [Act.put, List.getElem_toArray, List.getElem_cons_zero, List.getElem_cons_succ, List.setIfInBounds_toArray, List.set_cons_zero, List.set_cons_succ])
          refine wpAnyH_take (i := 10) (v := undef) rfl (by kernel_rfl) (by kernel_rfl) (by kernel_rfl) (fun _ _ _ h => h) (Or.inr ⟨by rfl, rfl⟩) (by assumption) ?_
          (try simp only [Act.put, List.getElem_toArray, List.getElem_cons_zero, List.getElem_cons_succ, List.setIfInBounds_toArray, List.set_cons_zero, List.set_cons_succ])
          refine wpAnyH_take (i := 11) (v := undef) rfl (by kernel_rfl) (by kernel_rfl) (by kernel_rfl) (fun _ _ _ h => h) (Or.inr ⟨by rfl, rfl⟩) (by assumption) ?_
          (try simp only [Act.put, List.getElem_toArray, List.getElem_cons_zero, List.getElem_cons_succ, List.setIfInBounds_toArray, List.set_cons_zero, List.set_cons_succ])
          refine wpAnyH_take (i := 12) (v := undef) rfl (by kernel_rfl) (by kernel_rfl) (by kernel_rfl) (fun _ _ _ h => h) (Or.inr ⟨by rfl, rfl⟩) (by assumption) ?_
          (try simp only [Act.put, List.getElem_toArray, List.getElem_cons_zero, List.getElem_cons_succ, List.setIfInBounds_toArray, List.set_cons_zero, List.set_cons_succ])
          refine wpAnyH_take (i := 13) (v := undef) rfl (by kernel_rfl) (by kernel_rfl) (by kernel_rfl) (fun _ _ _ h => h) (Or.inr ⟨by rfl, rfl⟩) (by assumption) ?_
          (try simp only [Act.put, List.getElem_toArray, List.getElem_cons_zero, List.getElem_cons_succ, List.setIfInBounds_toArray, List.set_cons_zero, List.set_cons_succ])
          refine wpAnyH_take (i := 14) (v := undef) rfl (by kernel_rfl) (by kernel_rfl) (by kernel_rfl) (fun _ _ _ h => h) (Or.inr ⟨by rfl, rfl⟩) (by assumption) ?_
          (try simp only [Act.put, List.getElem_toArray, List.getElem_cons_zero, List.getElem_cons_succ, List.setIfInBounds_toArray, List.set_cons_zero, List.set_cons_succ])
          refine wpAnyH_take (i := 15) (v := undef) rfl (by kernel_rfl) (by kernel_rfl) (by kernel_rfl) (fun _ _ _ h => h) (Or.inr ⟨by rfl, rfl⟩) (by assumption) ?_
          (try simp only [Act.put, List.getElem_toArray, List.getElem_cons_zero, List.getElem_cons_succ, List.setIfInBounds_toArray, List.set_cons_zero, List.set_cons_succ])
          refine wpAnyH_take (i := 16) (v := undef) rfl (by kernel_rfl) (by kernel_rfl) (by kernel_rfl) (fun _ _ _ h => h) (Or.inr ⟨by rfl, rfl⟩) (by assumption) ?_
          (try simp only [Act.put, List.getElem_toArray, List.getElem_cons_zero, List.getElem_cons_succ, List.setIfInBounds_toArray, List.set_cons_zero, List.set_cons_succ])
          refine wpAnyH_take (i := 17) (v := undef) rfl (by kernel_rfl) (by kernel_rfl) (by kernel_rfl) (fun _ _ _ h => h) (Or.inr ⟨by rfl, rfl⟩) (by assumption) ?_
          (try simp only [Act.put, List.getElem_toArray, List.getElem_cons_zero, List.getElem_cons_succ, List.setIfInBounds_toArray, List.set_cons_zero, List.set_cons_succ])
          refine wpAnyH_take (i := 18) (v := undef) rfl (by kernel_rfl) (by kernel_rfl) (by kernel_rfl) (fun _ _ _ h => h) (Or.inr ⟨by rfl, rfl⟩) (by assumption) ?_
          (try simp only [Act.put, List.getElem_toArray, List.getElem_cons_zero, List.getElem_cons_succ, List.setIfInBounds_toArray, List.set_cons_zero, List.set_cons_succ])
          refine wpAnyH_take (i := 19) (v := ?va19x10) rfl (by kernel_rfl) (by kernel_rfl) (by kernel_rfl) (fun _ _ _ h => h) (Or.inl ⟨by rfl, ?hy19x10⟩) (by assumption) ?rest19x10
          case hy19x10 => (intro w hSw; (try dsimp only at hSw); go_simp; try with_reducible rfl)
          (try simp only [Act.put, List.getElem_toArray, List.getElem_cons_zero, List.getElem_cons_succ, List.setIfInBounds_toArray, List.set_cons_zero, List.set_cons_succ])
          refine wpAnyH_take (i := 20) (v := ?va20x11) rfl (by kernel_rfl) (by kernel_rfl) (by kernel_rfl) (fun _ _ _ h => h) (Or.inl ⟨by rfl, ?hy20x11⟩) (by assumption) ?rest20x11
          case hy20x11 => (intro w hSw; (try dsimp only at hSw); go_simp; try with_reducible rfl)
          (try simp only [Act.put, List.getElem_toArray, List.getElem_cons_zero, List.getElem_cons_succ, List.setIfInBounds_toArray, List.set_cons_zero, List.set_cons_succ])
          refine wpAnyH_done (by kernel_rfl) ?_ _
          go_wp2_with fail
          go_ret
          exact ⟨r_b HE.out.symm, bst BW.out hbx BW.out.size⟩
        · have hkm := hin rfl
          obtain ⟨gg, og, rfl, hcg⟩ := B1.out.f.at' (by omega)
          obtain ⟨v, qv, hv'⟩ := hcg k hkm
          obtain ⟨va, vc, hvs⟩ := hv'.shape
          have HV := Lib.hid hv'
          subst hvs
          have i2 : (k : Int) < (m : Int) := by omega
          replace qu : wr.drew.cell? ⟨gf, of + k, none⟩ = some (.slice ua (x.f.getD k []).length uc) := qu
          replace qv : wr.drew.cell? ⟨gg, og + k, none⟩ = some (.slice va (y.f.getD k []).length vc) := qv
          have HEQ : Hid (∀ w', Below wr.heap.size wr w' → Calls Try.prog 97 #[.slice ua (x.f.getD k []).length uc, .slice va (y.f.getD k []).length vc] w' fun e w'' => e = .returned (.bool (decide (x.f.getD k [] = y.f.getD k []))) ∧ ∃ n, w'' = w'.drewN n) := fun w' hb => c_slEqual _ _ _ _ w' (HU.out.below hb) (HV.out.below hb) (by have := HLX.out; omega)
          clear hcg hv' hin
          generalize (x.f.getD k []).length = lx at *
          generalize (y.f.getD k []).length = ly at *
          generalize hd : decide (x.f.getD k [] = y.f.getD k []) = dq at *
          clear hd
          go_wp2_with fail
          refine wp_region_held_drew (S := (fun w' => w'.cell? ⟨w.heap.size, 0, none⟩ = some (.slice (some ⟨gf, of, none⟩) n fc) ∧ w'.cell? ⟨w.heap.size + 1, 0, none⟩ = some (.slice (some ⟨gg, og, none⟩) m gc) ∧ w'.cell? ⟨w.heap.size + 1, 1, none⟩ = some (.slice la ml lc) ∧ w'.cell? ⟨w.heap.size + 1, 2, none⟩ = some (.slice ra mr rc) ∧ w'.cell? ⟨gf, of + k, none⟩ = some (.slice ua lx uc) ∧ w'.cell? ⟨gg, og + k, none⟩ = some (.slice va ly vc) ∧ Below wr.heap.size wr w')) (by kernel_rfl) (⟨d0, e0, e1, e2, qu, qv, BD⟩) (fun hHeld => ?_)
          refine wpAnyH_take (i := 0) (v := ?va0x12) rfl (by kernel_rfl) (by kernel_rfl) (by kernel_rfl) (fun _ _ _ h => h) (Or.inl ⟨by rfl, ?hy0x12⟩) (by assumption) ?rest0x12
          case hy0x12 => (intro w hSw; (try dsimp only at hSw); go_simp; try with_reducible rfl)
          (try simp only [Act.put, List.getElem_toArray, List.getElem_cons_zero, List.setIfInBounds_toArray, List.set_cons_zero, List.set_cons_succ])
          refine wpAnyH_take (i := 1) (v := ?va1x13) rfl (by kernel_rfl) (by kernel_rfl) (by kernel_rfl) (fun _ _ _ h => h) (Or.inl ⟨by rfl, ?hy1x13⟩) (by assumption) ?rest1x13
          case hy1x13 => (intro w hSw; (try dsimp only at hSw); go_simp; try with_reducible rfl)
          (try simp only [Act.put, List.getElem_toArray, List.getElem_cons_zero, List.getElem_cons_succ, List.setIfInBounds_toArray, List.set_cons_zero, List.set_cons_succ])
          refine wpAnyH_take (i := 2) (v := ?va2x14) rfl (by kernel_rfl) (by kernel_rfl) (by kernel_rfl) (fun _ _ _ h => h) (Or.inl ⟨by rfl, ?hy2x14⟩) (by assumption) ?rest2x14
          case hy2x14 => (intro w hSw; (try dsimp only at hSw); go_simp; try with_reducible rfl)
          (try simp only [Act.put, List.getElem_toArray, List.getElem_cons_zero, List.getElem_cons_succ, List.setIfInBounds_toArray, List.set_cons_zero, List.set_cons_succ])
          refine wpAnyH_take (i := 3) (v := ?va3x15) rfl (by kernel_rfl) (by kernel_rfl) (by kernel_rfl) (fun _ _ _ h => h) (Or.inl ⟨by rfl, ?hy3x15⟩) (by assumption) ?rest3x15
          case hy3x15 => (intro w hSw; (try dsimp only at hSw); go_simp; try with_reducible rfl)
          (try simp only [Act.put, List.getElem_toArray, List.getElem_cons_zero, List.getElem_cons_succ, List.setIfInBounds_toArray, List.set_cons_zero, List.set_cons_succ])
          refine wpAnyH_ready (rs := [4]) (by kernel_rfl) (by simp) ?_
          refine AllReadyH.cons rfl (fun K hK => ?_) AllReadyH.nil
          go_simp
          refine (c_isLive _ _ _ y.l k _ (B1.out.l.below BD)).mono ?_
          rintro e w2 ⟨rfl, hb2⟩
          rw [HX.out]
          have hbx := bst BD hb2 BD.size
          replace d0 := cellBelow hb2 (Nat.le_refl _) d0
          replace e0 := cellBelow hb2 (Nat.le_refl _) e0
          replace e1 := cellBelow hb2 (Nat.le_refl _) e1
          replace e2 := cellBelow hb2 (Nat.le_refl _) e2
          replace qu := cellBelow hb2 (Nat.le_refl _) qu
          replace qv := cellBelow hb2 (Nat.le_refl _) qv
          refine hK.out _ _ ⟨d0, e0, e1, e2, qu, qv, hbx⟩ (fun hHeld => ?_)
          clear hK K
          (try simp only [Act.put, List.getElem_toArray, List.getElem_cons_zero, List.getElem_cons_succ, List.setIfInBounds_toArray, List.set_cons_zero, List.set_cons_succ])
          refine wpAnyH_take (i := 5) (v := ?va5x16) rfl (by kernel_rfl) (by kernel_rfl) (by kernel_rfl) (fun _ _ _ h => h) (Or.inl ⟨by rfl, ?hy5x16⟩) (by assumption) ?rest5x16
          case hy5x16 => (intro w hSw; (try dsimp only at hSw); go_simp; try with_reducible rfl)
          (try simp only [Act.put, List.getElem_toArray, List.getElem_cons_zero, List.getElem_cons_succ, List.setIfInBounds_toArray, List.set_cons_zero, List.set_cons_succ])
          refine wpAnyH_take (i := 6) (v := ?va6x17) rfl (by kernel_rfl) (by kernel_rfl) (by kernel_rfl) (fun _ _ _ h => h) (Or.inl ⟨by rfl, ?hy6x17⟩) (by assumption) ?rest6x17
          case hy6x17 => (intro w hSw; (try dsimp only at hSw); go_simp; try with_reducible rfl)
          (try simp only [Act.put, List.getElem_toArray, List.getElem_cons_zero, List.getElem_cons_succ, List.setIfInBounds_toArray, List.set_cons_zero, List.set_cons_succ])
          refine wpAnyH_take (i := 7) (v := ?va7x18) rfl (by kernel_rfl) (by kernel_rfl) (by kernel_rfl) (fun _ _ _ h => h) (Or.inl ⟨by rfl, ?hy7x18⟩) (by assumption) ?rest7x18
          case hy7x18 => (intro w hSw; (try dsimp only at hSw); go_simp; try with_reducible rfl)
          (try simp only [Act.put, List.getElem_toArray, List.getElem_cons_zero, List.getElem_cons_succ, List.setIfInBounds_toArray, List.set_cons_zero, List.set_cons_succ])
          refine wpAnyH_take (i := 8) (v := ?va8x19) rfl (by kernel_rfl) (by kernel_rfl) (by kernel_rfl) (fun _ _ _ h => h) (Or.inl ⟨by rfl, ?hy8x19⟩) (by assumption) ?rest8x19
          case hy8x19 => (intro w hSw; (try dsimp only at hSw); go_simp; try with_reducible rfl)
          (try simp only [Act.put, List.getElem_toArray, List.getElem_cons_zero, List.getElem_cons_succ, List.setIfInBounds_toArray, List.set_cons_zero, List.set_cons_succ])
          refine wpAnyH_take (i := 9) (v := ?va9x20) rfl (by kernel_rfl) (by kernel_rfl) (by kernel_rfl) (fun _ _ _ h => h) (Or.inl ⟨by rfl, ?hy9x20⟩) (by assumption) ?rest9x20
          case hy9x20 => (intro w hSw; (try dsimp only at hSw); go_simp; try with_reducible rfl)
          (try simp only [Act.put, List.getElem_toArray, List.getElem_cons_zero, List.getElem_cons_succ, List.setIfInBounds_toArray, List.set_cons_zero, List.set_cons_succ])
          refine wpAnyH_take (i := 10) (v := ?va10x21) rfl (by kernel_rfl) (by kernel_rfl) (by kernel_rfl) (fun _ _ _ h => h) (Or.inl ⟨by rfl, ?hy10x21⟩) (by assumption) ?rest10x21
          case hy10x21 => (intro w hSw; (try dsimp only at hSw); go_simp; try with_reducible rfl)
          (try simp only [Act.put, List.getElem_toArray, List.getElem_cons_zero, List.getElem_cons_succ, List.setIfInBounds_toArray, List.set_cons_zero, List.set_cons_succ])
          refine wpAnyH_take (i := 11) (v := ?va11x22) rfl (by kernel_rfl) (by kernel_rfl) (by kernel_rfl) (fun _ _ _ h => h) (Or.inl ⟨by rfl, ?hy11x22⟩) (by assumption) ?rest11x22
          case hy11x22 => (intro w hSw; (try dsimp only at hSw); go_simp; try with_reducible rfl)
          (try simp only [Act.put, List.getElem_toArray, List.getElem_cons_zero, List.getElem_cons_succ, List.setIfInBounds_toArray, List.set_cons_zero, List.set_cons_succ])
          refine wpAnyH_take (i := 12) (v := ?va12x23) rfl (by kernel_rfl) (by kernel_rfl) (by kernel_rfl) (fun _ _ _ h => h) (Or.inl ⟨by rfl, ?hy12x23⟩) (by assumption) ?rest12x23
          case hy12x23 => (intro w hSw; (try dsimp only at hSw); go_simp; try with_reducible rfl)
          (try simp only [Act.put, List.getElem_toArray, List.getElem_cons_zero, List.getElem_cons_succ, List.setIfInBounds_toArray, List.set_cons_zero, List.set_cons_succ])
          refine wpAnyH_take (i := 13) (v := ?va13x24) rfl (by kernel_rfl) (by kernel_rfl) (by kernel_rfl) (fun _ _ _ h => h) (Or.inl ⟨by rfl, ?hy13x24⟩) (by assumption) ?rest13x24
          case hy13x24 => (intro w hSw; (try dsimp only at hSw); go_simp; try with_reducible rfl)
          (try simp only [Act.put, List.getElem_toArray, List.getElem_cons_zero, List.getElem_cons_succ, List.setIfInBounds_toArray, List.set_cons_zero, List.set_cons_succ])
          refine wpAnyH_take (i := 14) (v := ?va14x25) rfl (by kernel_rfl) (by kernel_rfl) (by kernel_rfl) (fun _ _ _ h => h) (Or.inl ⟨by rfl, ?hy14x25⟩) (by assumption) ?rest14x25
          case hy14x25 => (intro w hSw; (try dsimp only at hSw); go_simp; try with_reducible rfl)
          (try simp only [Act.put, List.getElem_toArray, List.getElem_cons_zero, List.getElem_cons_succ, List.setIfInBounds_toArray, List.set_cons_zero, List.set_cons_succ])
          refine wpAnyH_take (i := 15) (v := ?va15x26) rfl (by kernel_rfl) (by kernel_rfl) (by kernel_rfl) (fun _ _ _ h => h) (Or.inl ⟨by rfl, ?hy15x26⟩) (by assumption) ?rest15x26
          case hy15x26 => (intro w hSw; (try dsimp only at hSw); go_simp; try with_reducible rfl)
          (try simp only [Act.put, List.getElem_toArray, List.getElem_cons_zero, List.getElem_cons_succ, List.setIfInBounds_toArray, List.set_cons_zero, List.set_cons_succ])
          refine wpAnyH_take (i := 16) (v := ?va16x27) rfl (by kernel_rfl) (by kernel_rfl) (by kernel_rfl) (fun _ _ _ h => h) (Or.inl ⟨by rfl, ?hy16x27⟩) (by assumption) ?rest16x27
          case hy16x27 => (intro w hSw; (try dsimp only at hSw); go_simp; try with_reducible rfl)
          (try simp only [Act.put, List.getElem_toArray, List.getElem_cons_zero, List.getElem_cons_succ, List.setIfInBounds_toArray, List.set_cons_zero, List.set_cons_succ])
          refine wpAnyH_ready (rs := [17]) (by kernel_rfl) (by simp) ?_
          refine AllReadyH.cons rfl (fun K hK => ?_) AllReadyH.nil
          go_simp
          refine (HEQ.out _ hbx).mono ?_
          rintro e w3 ⟨rfl, nd, rfl⟩
          replace hbx := below_drewN hbx nd
          have d0z : (w2.drewN nd).cell? ⟨w.heap.size, 0, none⟩ = some (.slice (some ⟨gf, of, none⟩) n fc) := d0
          have e0z : (w2.drewN nd).cell? ⟨w.heap.size + 1, 0, none⟩ = some (.slice (some ⟨gg, og, none⟩) m gc) := e0
          have e1z : (w2.drewN nd).cell? ⟨w.heap.size + 1, 1, none⟩ = some (.slice la ml lc) := e1
          have e2z : (w2.drewN nd).cell? ⟨w.heap.size + 1, 2, none⟩ = some (.slice ra mr rc) := e2
          have quz : (w2.drewN nd).cell? ⟨gf, of + k, none⟩ = some (.slice ua lx uc) := qu
          have qvz : (w2.drewN nd).cell? ⟨gg, og + k, none⟩ = some (.slice va ly vc) := qv
          refine hK.out _ _ ⟨d0z, e0z, e1z, e2z, quz, qvz, hbx⟩ (fun hHeld => ?_)
          clear hK K
          (try simp only [Act.put, List.getElem_toArray, List.getElem_cons_zero, List.getElem_cons_succ, List.setIfInBounds_toArray, List.set_cons_zero, List.set_cons_succ])
          refine wpAnyH_take (i := 18) (v := ?va18x28) rfl (by kernel_rfl) (by kernel_rfl) (by kernel_rfl) (fun _ _ _ h => h) (Or.inl ⟨by rfl, ?hy18x28⟩) (by assumption) ?rest18x28
          case hy18x28 => (intro w hSw; (try dsimp only at hSw); go_simp; try with_reducible rfl)
          (try simp only [Act.put, List.getElem_toArray, List.getElem_cons_zero, List.getElem_cons_succ, List.setIfInBounds_toArray, List.set_cons_zero, List.set_cons_succ])
          refine wpAnyH_take (i := 19) (v := ?va19x29) rfl (by kernel_rfl) (by kernel_rfl) (by kernel_rfl) (fun _ _ _ h => h) (Or.inl ⟨by rfl, ?hy19x29⟩) (by assumption) ?rest19x29
          case hy19x29 => (intro w hSw; (try dsimp only at hSw); go_simp; try with_reducible rfl)
          (try simp only [Act.put, List.getElem_toArray, List.getElem_cons_zero, List.getElem_cons_succ, List.setIfInBounds_toArray, List.set_cons_zero, List.set_cons_succ])
          refine wpAnyH_take (i := 20) (v := ?va20x30) rfl (by kernel_rfl) (by kernel_rfl) (by kernel_rfl) (fun _ _ _ h => h) (Or.inl ⟨by rfl, ?hy20x30⟩) (by assumption) ?rest20x30
          case hy20x30 => (intro w hSw; (try dsimp only at hSw); go_simp; try with_reducible rfl)
          (try simp only [Act.put, List.getElem_toArray, List.getElem_cons_zero, List.getElem_cons_succ, List.setIfInBounds_toArray, List.set_cons_zero, List.set_cons_succ])
          refine wpAnyH_done (by kernel_rfl) ?_ _
          cases dq
          · have HE : Hid (sfB x y ts n = false) := HF.out rfl
            go_wp2_with fail
            go_ret
            exact ⟨r_b HE.out.symm, bst BW.out hbx BW.out.size⟩
          · have HE : Hid (sfB x y ts (k + 1) = true) := by unfold Hid; rw [HS.out]; rfl
            go_wp2_with fail
            go_roundw
            case rel => exact ⟨k + 1, by omega, by go_num, HE, bst HBR.out hbx HBR.out.size⟩
            case measure => simp [intOf]; omega
    · obtain rfl : k = n := by omega
      go_wp2_with fail
      go_ret
      exact ⟨r_b ht.out.symm, BW.out⟩
end Go.Proofs.Ytkkigoamphkalaa
namespace Go.Proofs.Ytkkigoamphkalaa.Ph
theorem sfB_same {a b : H} (ga : Ph.Good a) (gb : Ph.Good b) (hr : a.r = b.r) : sfB a b (reachL a.f a.r) a.f.length = sameP a b := by
  rw [Bool.eq_iff_iff, sameP_iff]
  unfold sfB
  rw [List.all_eq_true]
  constructor
  · intro h
    refine same_of hr fun k hk => ?_
    have hl := reach_live ga hk
    have h1 := h k (by simpa using hl.2)
    rw [reachL_getD.2 ⟨hl.2, hk⟩] at h1
    simp only [Bool.not_true, Bool.false_or, Bool.and_eq_true, decide_eq_true_eq] at h1
    exact h1.2
  · rintro ⟨_, hs⟩ k hk
    by_cases hq : (reachL a.f a.r).getD k false = true
    · have hrk := (reachL_getD.1 hq).2
      have hl := reach_live gb ((hs k).1.1 hrk)
      rw [hq]
      simp only [Bool.not_true, Bool.false_or, Bool.and_eq_true, decide_eq_true_eq]
      exact ⟨liveB_iff.2 ⟨by omega, by simpa using hl.1⟩, (hs k).2 hrk⟩
    · have : (reachL a.f a.r).getD k false = false := by simpa using hq
      rw [this]; rfl
theorem sameP_roots {a b : H} (h : ¬ a.r = b.r) : sameP a b = false := sameP_false fun k => h k.1
def both (a b : H) : Bool := good a && good b
noncomputable def sameQ (a b : H) : Bool := both a b && sameP a b
end Go.Proofs.Ytkkigoamphkalaa.Ph
namespace Go.Proofs.Ytkkigoamphkalaa
open Go.RowKit Ph

set_option maxRecDepth 100000 in
set_option maxHeartbeats 6400000 in
theorem c_SameReached (a1 b1 c1 a2 b2 c2 : Value) (x y : H) (w : World) (hA : HeapAt w a1 b1 c1 x) (hB : HeapAt w a2 b2 c2 y) :
    Calls Try.prog 32 #[hv a1 b1 c1, hv a2 b2 c2] w fun e w' => e = .returned (.tuple #[.bool (sameQ x y), .bool (both x y)]) ∧ Below w.heap.size w w' := by
  have hb0 := (below1 w (.cells (c3 a1 b1 c1) 30)).alloc (by simp) (.cells (c3 a2 b2 c2) 30)
  have A0 := Lib.hid (hA.below hb0); have B0 := Lib.hid (hB.below hb0)
  have HB := Lib.hid hb0
  have P0 := Lib.hid (show RowH _ _ a1 b1 c1 from (Row.new w 30 (c3 a1 b1 c1)).alloc (.cells (c3 a2 b2 c2) 30))
  have Q0 := Lib.hid (show RowH _ (w.heap.size + 1) a2 b2 c2 from Row.new1 w (.cells (c3 a1 b1 c1) 30) 30 (c3 a2 b2 c2))
  have GA := Lib.hid (good_iff (h := x)).1; have GB := Lib.hid (good_iff (h := y)).1
  have h2 : both x y = (good x && good y) := rfl
  have h1 : sameQ x y = ((good x && good y) && sameP x y) := rfl
  have HCA : Hid (∀ w', HeapAt w' a1 b1 c1 x → Calls Try.prog 55 #[hv a1 b1 c1] w' fun e w'' => e = .returned (.bool (good x)) ∧ Below w'.heap.size w' w'') := fun w' h => c_GoodHeap a1 b1 c1 x w' h
  have HCB : Hid (∀ w', HeapAt w' a2 b2 c2 y → Calls Try.prog 55 #[hv a2 b2 c2] w' fun e w'' => e = .returned (.bool (good y)) ∧ Below w'.heap.size w' w'') := fun w' h => c_GoodHeap a2 b2 c2 y w' h
  have p0 := P0.out.c0
  have p1 := P0.out.c1
  have p2 := P0.out.c2
  have q0 := Q0.out.c0
  have q1 := Q0.out.c1
  have q2 := Q0.out.c2
  generalize both x y = r2 at *
  generalize sameQ x y = r1 at *
  generalize good x = gx at *
  generalize good y = gy at *
  cases gx
  · have H1 : Hid (r1 = false) := by unfold Hid; rw [h1]; rfl
    have H2 : Hid (r2 = false) := by unfold Hid; rw [h2]; rfl
    clear h1 h2 hA hB
    go_enter Try.func32, Try.ntmps32
    go_wp2_with (go_at_call 55; refine (HCA.out _ A0.out).mono ?_; rintro e w1 ⟨rfl, hb1⟩; have B1 := Lib.hid (bst HB.out hb1 HB.out.size); clear hb1)
    go_ret2
    exact ⟨r_bb H1.out.symm H2.out.symm, B1.out⟩
  · cases gy
    · have H1 : Hid (r1 = false) := by unfold Hid; rw [h1]; rfl
      have H2 : Hid (r2 = false) := by unfold Hid; rw [h2]; rfl
      clear h1 h2 hA hB
      go_enter Try.func32, Try.ntmps32
      go_wp2_with (first
        | (go_at_call 55; refine (HCB.out _ Y1.out).mono ?_; rintro e w2 ⟨rfl, hb2⟩; have B2 := Lib.hid (bst B1.out hb2 B1.out.size); clear hb2)
        | (go_at_call 55; refine (HCA.out _ A0.out).mono ?_; rintro e w1 ⟨rfl, hb1⟩; have B1 := Lib.hid (bst HB.out hb1 HB.out.size); have Y1 := Lib.hid (B0.out.below hb1); have Q1 := Lib.hid (Q0.out.below hb1); have s0 := Q1.out.c0; have s1 := Q1.out.c1; have s2 := Q1.out.c2; clear hb1))
      go_ret2
      exact ⟨r_bb H1.out.symm H2.out.symm, B2.out⟩
    · have H2 : Hid (r2 = true) := by unfold Hid; rw [h2]; rfl
      have H1 : Hid (r1 = sameP x y) := by unfold Hid; rw [h1]; rfl
      have GX := Lib.hid (GA.out rfl); have GY := Lib.hid (GB.out rfl)
      obtain ⟨fa, fc, rfl⟩ := hA.f.shape
      obtain ⟨la, lc, rfl⟩ := hA.l.shape
      obtain ⟨ra, rc, rfl⟩ := hA.r.shape
      obtain ⟨ga, gc, rfl⟩ := hB.f.shape
      obtain ⟨ma, mc, rfl⟩ := hB.l.shape
      obtain ⟨sa, sc, rfl⟩ := hB.r.shape
      clear h1 h2 hA hB
      go_enter Try.func32, Try.ntmps32
      go_wp2_with (first
        | (go_at_call 55; refine (HCB.out _ Y1.out).mono ?_; rintro e w2 ⟨rfl, hb2⟩; have B2 := Lib.hid (bst B1.out hb2 B1.out.size); have X2 := Lib.hid (X1.out.below hb2); have Y2 := Lib.hid (Y1.out.below hb2); have P2 := Lib.hid (P1.out.below hb2); have Q2 := Lib.hid (Q1.out.below hb2); clear hb2)
        | (go_at_call 55; refine (HCA.out _ A0.out).mono ?_; rintro e w1 ⟨rfl, hb1⟩; have B1 := Lib.hid (bst HB.out hb1 HB.out.size); have X1 := Lib.hid (A0.out.below hb1); have Y1 := Lib.hid (B0.out.below hb1); have P1 := Lib.hid (P0.out.below hb1); have Q1 := Lib.hid (Q0.out.below hb1); have s0 := Q1.out.c0; have s1 := Q1.out.c1; have s2 := Q1.out.c2; clear hb1))
      clear p0 p1 p2 q0 q1 q2 s0 s1 s2
      have BD := below_drew (Below.refl w2.heap.size w2)
      have c0 : w2.drew.cell? ⟨w.heap.size, 0, none⟩ = some (.slice fa x.f.length fc) := P2.out.c0
      have c1 : w2.drew.cell? ⟨w.heap.size, 1, none⟩ = some (.slice la x.l.length lc) := P2.out.c1
      have c2 : w2.drew.cell? ⟨w.heap.size, 2, none⟩ = some (.slice ra x.r.length rc) := P2.out.c2
      have d0 : w2.drew.cell? ⟨w.heap.size + 1, 0, none⟩ = some (.slice ga y.f.length gc) := Q2.out.c0
      have d1 : w2.drew.cell? ⟨w.heap.size + 1, 1, none⟩ = some (.slice ma y.l.length mc) := Q2.out.c1
      have d2 : w2.drew.cell? ⟨w.heap.size + 1, 2, none⟩ = some (.slice sa y.r.length sc) := Q2.out.c2
      have HEQ : Hid (∀ w', Below w2.heap.size w2 w' → Calls Try.prog 97 #[.slice ra x.r.length rc, .slice sa y.r.length sc] w' fun e w'' => e = .returned (.bool (decide (x.r = y.r))) ∧ ∃ n, w'' = w'.drewN n) := fun w' hb => c_slEqual _ _ _ _ w' (X2.out.r.below hb) (Y2.out.r.below hb) (by have := GX.out.rn; omega)
      have HSF : Hid (x.r = y.r → sfB x y (reachL x.f x.r) x.f.length = sameP x y) := sfB_same GX.out GY.out
      have HSN : Hid (¬ x.r = y.r → sameP x y = false) := sameP_roots
      by_cases hxy : x.r = y.r
      · have hd : decide (x.r = y.r) = true := decide_eq_true hxy
        have HSP := Lib.hid (HSF.out hxy)
        rw [hd] at HEQ
        clear hd hxy
        refine wp_region_held_drew (S := (fun w' => w'.cell? ⟨w.heap.size, 0, none⟩ = some (.slice fa x.f.length fc) ∧ w'.cell? ⟨w.heap.size, 1, none⟩ = some (.slice la x.l.length lc) ∧ w'.cell? ⟨w.heap.size, 2, none⟩ = some (.slice ra x.r.length rc) ∧ w'.cell? ⟨w.heap.size + 1, 0, none⟩ = some (.slice ga y.f.length gc) ∧ w'.cell? ⟨w.heap.size + 1, 1, none⟩ = some (.slice ma y.l.length mc) ∧ w'.cell? ⟨w.heap.size + 1, 2, none⟩ = some (.slice sa y.r.length sc) ∧ Below w2.heap.size w2 w')) (by kernel_rfl) (⟨c0, c1, c2, d0, d1, d2, BD⟩) (fun hHeld => ?_)
        refine wpAnyH_take (i := 0) (v := ?va0x9) rfl (by kernel_rfl) (by kernel_rfl) (by kernel_rfl) (fun _ _ _ h => h) (Or.inl ⟨by rfl, ?hy0x9⟩) (by assumption) ?rest0x9
        case hy0x9 => (intro w hSw; (try dsimp only at hSw); go_simp; try with_reducible rfl)
        (try simp only [Act.put, List.getElem_toArray, List.getElem_cons_zero, List.setIfInBounds_toArray, List.set_cons_zero, List.set_cons_succ])
        refine wpAnyH_take (i := 1) (v := ?va1x10) rfl (by kernel_rfl) (by kernel_rfl) (by kernel_rfl) (fun _ _ _ h => h) (Or.inl ⟨by rfl, ?hy1x10⟩) (by assumption) ?rest1x10
        case hy1x10 => (intro w hSw; (try dsimp only at hSw); go_simp; try with_reducible rfl)
        (try simp only [Act.put, List.getElem_toArray, List.getElem_cons_zero, List.getElem_cons_succ, List.setIfInBounds_toArray, List.set_cons_zero, List.set_cons_succ])
        refine wpAnyH_take (i := 2) (v := ?va2x11) rfl (by kernel_rfl) (by kernel_rfl) (by kernel_rfl) (fun _ _ _ h => h) (Or.inl ⟨by rfl, ?hy2x11⟩) (by assumption) ?rest2x11
        case hy2x11 => (intro w hSw; (try dsimp only at hSw); go_simp; try with_reducible rfl)
        (try simp only [Act.put, List.getElem_toArray, List.getElem_cons_zero, List.getElem_cons_succ, List.setIfInBounds_toArray, List.set_cons_zero, List.set_cons_succ])
        refine wpAnyH_take (i := 3) (v := ?va3x12) rfl (by kernel_rfl) (by kernel_rfl) (by kernel_rfl) (fun _ _ _ h => h) (Or.inl ⟨by rfl, ?hy3x12⟩) (by assumption) ?rest3x12
        case hy3x12 => (intro w hSw; (try dsimp only at hSw); go_simp; try with_reducible rfl)
        (try simp only [Act.put, List.getElem_toArray, List.getElem_cons_zero, List.getElem_cons_succ, List.setIfInBounds_toArray, List.set_cons_zero, List.set_cons_succ])
        refine wpAnyH_ready (rs := [4]) (by kernel_rfl) (by simp) ?_
        refine AllReadyH.cons rfl (fun K hK => ?_) AllReadyH.nil
        go_simp
        refine (HEQ.out _ BD).mono ?_
        rintro e w3 ⟨rfl, nd, rfl⟩
        have hbx := below_drewN BD nd
        replace c0 : (w2.drew.drewN nd).cell? ⟨w.heap.size, 0, none⟩ = some (.slice fa x.f.length fc) := c0
        replace c1 : (w2.drew.drewN nd).cell? ⟨w.heap.size, 1, none⟩ = some (.slice la x.l.length lc) := c1
        replace c2 : (w2.drew.drewN nd).cell? ⟨w.heap.size, 2, none⟩ = some (.slice ra x.r.length rc) := c2
        replace d0 : (w2.drew.drewN nd).cell? ⟨w.heap.size + 1, 0, none⟩ = some (.slice ga y.f.length gc) := d0
        replace d1 : (w2.drew.drewN nd).cell? ⟨w.heap.size + 1, 1, none⟩ = some (.slice ma y.l.length mc) := d1
        replace d2 : (w2.drew.drewN nd).cell? ⟨w.heap.size + 1, 2, none⟩ = some (.slice sa y.r.length sc) := d2
        refine hK.out _ _ ⟨c0, c1, c2, d0, d1, d2, hbx⟩ (fun hHeld => ?_)
        clear hK K
        (try simp only [Act.put, List.getElem_toArray, List.getElem_cons_zero, List.getElem_cons_succ, List.setIfInBounds_toArray, List.set_cons_zero, List.set_cons_succ])
        generalize w2.drew.drewN nd = w3 at *
        refine wpAnyH_take (i := 5) (v := ?va5x13) rfl (by kernel_rfl) (by kernel_rfl) (by kernel_rfl) (fun _ _ _ h => h) (Or.inl ⟨by rfl, ?hy5x13⟩) (by assumption) ?rest5x13
        case hy5x13 => (intro w hSw; (try dsimp only at hSw); go_simp; try with_reducible rfl)
        (try simp only [Act.put, List.getElem_toArray, List.getElem_cons_zero, List.getElem_cons_succ, List.setIfInBounds_toArray, List.set_cons_zero, List.set_cons_succ])
        refine wpAnyH_take (i := 6) (v := ?va6x14) rfl (by kernel_rfl) (by kernel_rfl) (by kernel_rfl) (fun _ _ _ h => h) (Or.inl ⟨by rfl, ?hy6x14⟩) (by assumption) ?rest6x14
        case hy6x14 => (intro w hSw; (try dsimp only at hSw); go_simp; try with_reducible rfl)
        (try simp only [Act.put, List.getElem_toArray, List.getElem_cons_zero, List.getElem_cons_succ, List.setIfInBounds_toArray, List.set_cons_zero, List.set_cons_succ])
        refine wpAnyH_take (i := 7) (v := ?va7x15) rfl (by kernel_rfl) (by kernel_rfl) (by kernel_rfl) (fun _ _ _ h => h) (Or.inl ⟨by rfl, ?hy7x15⟩) (by assumption) ?rest7x15
        case hy7x15 => (intro w hSw; (try dsimp only at hSw); go_simp; try with_reducible rfl)
        (try simp only [Act.put, List.getElem_toArray, List.getElem_cons_zero, List.getElem_cons_succ, List.setIfInBounds_toArray, List.set_cons_zero, List.set_cons_succ])
        refine wpAnyH_take (i := 8) (v := ?va8x16) rfl (by kernel_rfl) (by kernel_rfl) (by kernel_rfl) (fun _ _ _ h => h) (Or.inl ⟨by rfl, ?hy8x16⟩) (by assumption) ?rest8x16
        case hy8x16 => (intro w hSw; (try dsimp only at hSw); go_simp; try with_reducible rfl)
        (try simp only [Act.put, List.getElem_toArray, List.getElem_cons_zero, List.getElem_cons_succ, List.setIfInBounds_toArray, List.set_cons_zero, List.set_cons_succ])
        refine wpAnyH_take (i := 9) (v := ?va9x17) rfl (by kernel_rfl) (by kernel_rfl) (by kernel_rfl) (fun _ _ _ h => h) (Or.inl ⟨by rfl, ?hy9x17⟩) (by assumption) ?rest9x17
        case hy9x17 => (intro w hSw; (try dsimp only at hSw); go_simp; try with_reducible rfl)
        (try simp only [Act.put, List.getElem_toArray, List.getElem_cons_zero, List.getElem_cons_succ, List.setIfInBounds_toArray, List.set_cons_zero, List.set_cons_succ])
        refine wpAnyH_take (i := 10) (v := ?va10x18) rfl (by kernel_rfl) (by kernel_rfl) (by kernel_rfl) (fun _ _ _ h => h) (Or.inl ⟨by rfl, ?hy10x18⟩) (by assumption) ?rest10x18
        case hy10x18 => (intro w hSw; (try dsimp only at hSw); go_simp; try with_reducible rfl)
        (try simp only [Act.put, List.getElem_toArray, List.getElem_cons_zero, List.getElem_cons_succ, List.setIfInBounds_toArray, List.set_cons_zero, List.set_cons_succ])
        refine wpAnyH_ready (rs := [11]) (by kernel_rfl) (by simp) ?_
        refine AllReadyH.cons rfl (fun K hK => ?_) AllReadyH.nil
        go_simp
        refine (c_reachedOver _ _ _ _ x x.r _ (X2.out.below hbx) GX.out (X2.out.r.below hbx) (by have := GX.out.rn; omega) (fun z hz => (refs_bound GX.out GX.out.rr z hz).imp id (fun h => ⟨h.1, h.2.1⟩))).mono ?_
        rintro e w4 ⟨kv, rfl, hok, hb4⟩
        replace hbx := bst hbx hb4 hbx.size
        replace c0 := cellBelow hb4 (Nat.le_refl _) c0
        replace c1 := cellBelow hb4 (Nat.le_refl _) c1
        replace c2 := cellBelow hb4 (Nat.le_refl _) c2
        replace d0 := cellBelow hb4 (Nat.le_refl _) d0
        replace d1 := cellBelow hb4 (Nat.le_refl _) d1
        replace d2 := cellBelow hb4 (Nat.le_refl _) d2
        obtain ⟨pk, qk, hpk⟩ := (owns_bools hok).shape
        subst hpk
        have KB := Lib.hid (owns_bools hok)
        clear hok hb4
        refine hK.out _ _ ⟨c0, c1, c2, d0, d1, d2, hbx⟩ (fun hHeld => ?_)
        clear hK K
        (try simp only [Act.put, List.getElem_toArray, List.getElem_cons_zero, List.getElem_cons_succ, List.setIfInBounds_toArray, List.set_cons_zero, List.set_cons_succ])
        refine wpAnyH_ready (rs := [12]) (by kernel_rfl) (by simp) ?_
        refine AllReadyH.cons rfl (fun K hK => ?_) AllReadyH.nil
        go_simp
        refine (c_sameFields _ _ _ _ _ _ _ x y (reachL x.f x.r) _ (X2.out.below hbx) (Y2.out.below hbx) KB.out GX.out GY.out (reachL_length _ _)).mono ?_
        rintro e w5 ⟨rfl, hb5⟩
        replace hbx := bst hbx hb5 hbx.size
        replace c0 := cellBelow hb5 (Nat.le_refl _) c0
        replace c1 := cellBelow hb5 (Nat.le_refl _) c1
        replace c2 := cellBelow hb5 (Nat.le_refl _) c2
        replace d0 := cellBelow hb5 (Nat.le_refl _) d0
        replace d1 := cellBelow hb5 (Nat.le_refl _) d1
        replace d2 := cellBelow hb5 (Nat.le_refl _) d2
        refine hK.out _ _ ⟨c0, c1, c2, d0, d1, d2, hbx⟩ (fun hHeld => ?_)
        clear hK K hb5
        (try simp only [Act.put, List.getElem_toArray, List.getElem_cons_zero, List.getElem_cons_succ, List.setIfInBounds_toArray, List.set_cons_zero, List.set_cons_succ])
        refine wpAnyH_take (i := 13) (v := ?va13x19) rfl (by kernel_rfl) (by kernel_rfl) (by kernel_rfl) (fun _ _ _ h => h) (Or.inl ⟨by rfl, ?hy13x19⟩) (by assumption) ?rest13x19
        case hy13x19 => (intro w hSw; (try dsimp only at hSw); go_simp; try with_reducible rfl)
        (try simp only [Act.put, List.getElem_toArray, List.getElem_cons_zero, List.getElem_cons_succ, List.setIfInBounds_toArray, List.set_cons_zero, List.set_cons_succ])
        refine wpAnyH_take (i := 14) (v := ?va14x20) rfl (by kernel_rfl) (by kernel_rfl) (by kernel_rfl) (fun _ _ _ h => h) (Or.inl ⟨by rfl, ?hy14x20⟩) (by assumption) ?rest14x20
        case hy14x20 => (intro w hSw; (try dsimp only at hSw); go_simp; try with_reducible rfl)
        (try simp only [Act.put, List.getElem_toArray, List.getElem_cons_zero, List.getElem_cons_succ, List.setIfInBounds_toArray, List.set_cons_zero, List.set_cons_succ])
        refine wpAnyH_take (i := 15) (v := ?va15x21) rfl (by kernel_rfl) (by kernel_rfl) (by kernel_rfl) (fun _ _ _ h => h) (Or.inl ⟨by rfl, ?hy15x21⟩) (by assumption) ?rest15x21
        case hy15x21 => (intro w hSw; (try dsimp only at hSw); go_simp; try with_reducible rfl)
        (try simp only [Act.put, List.getElem_toArray, List.getElem_cons_zero, List.getElem_cons_succ, List.setIfInBounds_toArray, List.set_cons_zero, List.set_cons_succ])
        refine wpAnyH_done (by kernel_rfl) ?_ _
        go_wp2_with fail
        go_ret2
        exact ⟨r_bb (HSP.out.trans H1.out.symm) H2.out.symm, bst B2.out hbx B2.out.size⟩
      · have hd : decide (x.r = y.r) = false := decide_eq_false hxy
        have HSP := Lib.hid (HSN.out hxy)
        rw [hd] at HEQ
        clear hd hxy
        refine wp_region_held_drew (S := (fun w' => w'.cell? ⟨w.heap.size, 0, none⟩ = some (.slice fa x.f.length fc) ∧ w'.cell? ⟨w.heap.size, 1, none⟩ = some (.slice la x.l.length lc) ∧ w'.cell? ⟨w.heap.size, 2, none⟩ = some (.slice ra x.r.length rc) ∧ w'.cell? ⟨w.heap.size + 1, 0, none⟩ = some (.slice ga y.f.length gc) ∧ w'.cell? ⟨w.heap.size + 1, 1, none⟩ = some (.slice ma y.l.length mc) ∧ w'.cell? ⟨w.heap.size + 1, 2, none⟩ = some (.slice sa y.r.length sc) ∧ Below w2.heap.size w2 w')) (by kernel_rfl) (⟨c0, c1, c2, d0, d1, d2, BD⟩) (fun hHeld => ?_)
        refine wpAnyH_take (i := 0) (v := ?va0x1) rfl (by kernel_rfl) (by kernel_rfl) (by kernel_rfl) (fun _ _ _ h => h) (Or.inl ⟨by rfl, ?hy0x1⟩) (by assumption) ?rest0x1
        case hy0x1 => (intro w hSw; (try dsimp only at hSw); go_simp; try with_reducible rfl)
        (try simp only [Act.put, List.getElem_toArray, List.getElem_cons_zero, List.setIfInBounds_toArray, List.set_cons_zero, List.set_cons_succ])
        refine wpAnyH_take (i := 1) (v := ?va1x2) rfl (by kernel_rfl) (by kernel_rfl) (by kernel_rfl) (fun _ _ _ h => h) (Or.inl ⟨by rfl, ?hy1x2⟩) (by assumption) ?rest1x2
        case hy1x2 => (intro w hSw; (try dsimp only at hSw); go_simp; try with_reducible rfl)
        (try simp only [Act.put, List.getElem_toArray, List.getElem_cons_zero, List.getElem_cons_succ, List.setIfInBounds_toArray, List.set_cons_zero, List.set_cons_succ])
        refine wpAnyH_take (i := 2) (v := ?va2x3) rfl (by kernel_rfl) (by kernel_rfl) (by kernel_rfl) (fun _ _ _ h => h) (Or.inl ⟨by rfl, ?hy2x3⟩) (by assumption) ?rest2x3
        case hy2x3 => (intro w hSw; (try dsimp only at hSw); go_simp; try with_reducible rfl)
        (try simp only [Act.put, List.getElem_toArray, List.getElem_cons_zero, List.getElem_cons_succ, List.setIfInBounds_toArray, List.set_cons_zero, List.set_cons_succ])
        refine wpAnyH_take (i := 3) (v := ?va3x4) rfl (by kernel_rfl) (by kernel_rfl) (by kernel_rfl) (fun _ _ _ h => h) (Or.inl ⟨by rfl, ?hy3x4⟩) (by assumption) ?rest3x4
        case hy3x4 => (intro w hSw; (try dsimp only at hSw); go_simp; try with_reducible rfl)
        (try simp only [Act.put, List.getElem_toArray, List.getElem_cons_zero, List.getElem_cons_succ, List.setIfInBounds_toArray, List.set_cons_zero, List.set_cons_succ])
        refine wpAnyH_ready (rs := [4]) (by kernel_rfl) (by simp) ?_
        refine AllReadyH.cons rfl (fun K hK => ?_) AllReadyH.nil
        go_simp
        refine (HEQ.out _ BD).mono ?_
        rintro e w3 ⟨rfl, nd, rfl⟩
        have hbx := below_drewN BD nd
        replace c0 : (w2.drew.drewN nd).cell? ⟨w.heap.size, 0, none⟩ = some (.slice fa x.f.length fc) := c0
        replace c1 : (w2.drew.drewN nd).cell? ⟨w.heap.size, 1, none⟩ = some (.slice la x.l.length lc) := c1
        replace c2 : (w2.drew.drewN nd).cell? ⟨w.heap.size, 2, none⟩ = some (.slice ra x.r.length rc) := c2
        replace d0 : (w2.drew.drewN nd).cell? ⟨w.heap.size + 1, 0, none⟩ = some (.slice ga y.f.length gc) := d0
        replace d1 : (w2.drew.drewN nd).cell? ⟨w.heap.size + 1, 1, none⟩ = some (.slice ma y.l.length mc) := d1
        replace d2 : (w2.drew.drewN nd).cell? ⟨w.heap.size + 1, 2, none⟩ = some (.slice sa y.r.length sc) := d2
        refine hK.out _ _ ⟨c0, c1, c2, d0, d1, d2, hbx⟩ (fun hHeld => ?_)
        clear hK K
        (try simp only [Act.put, List.getElem_toArray, List.getElem_cons_zero, List.getElem_cons_succ, List.setIfInBounds_toArray, List.set_cons_zero, List.set_cons_succ])
        generalize w2.drew.drewN nd = w3 at *
        refine wpAnyH_take (i := 5) (v := ?va5x5) rfl (by kernel_rfl) (by kernel_rfl) (by kernel_rfl) (fun _ _ _ h => h) (Or.inl ⟨by rfl, ?hy5x5⟩) (by assumption) ?rest5x5
        case hy5x5 => (intro w hSw; (try dsimp only at hSw); go_simp; try with_reducible rfl)
        (try simp only [Act.put, List.getElem_toArray, List.getElem_cons_zero, List.getElem_cons_succ, List.setIfInBounds_toArray, List.set_cons_zero, List.set_cons_succ])
        refine wpAnyH_take (i := 6) (v := undef) rfl (by kernel_rfl) (by kernel_rfl) (by kernel_rfl) (fun _ _ _ h => h) (Or.inr ⟨by rfl, rfl⟩) (by assumption) ?_
        (try simp only [Act.put, List.getElem_toArray, List.getElem_cons_zero, List.getElem_cons_succ, List.setIfInBounds_toArray, List.set_cons_zero, List.set_cons_succ])
        refine wpAnyH_take (i := 7) (v := undef) rfl (by kernel_rfl) (by kernel_rfl) (by kernel_rfl) (fun _ _ _ h => h) (Or.inr ⟨by rfl, rfl⟩) (by assumption) ?_
        (try simp only [Act.put, List.getElem_toArray, List.getElem_cons_zero, List.getElem_cons_succ, List.setIfInBounds_toArray, List.set_cons_zero, List.set_cons_succ])
        refine wpAnyH_take (i := 8) (v := undef) rfl (by kernel_rfl) (by kernel_rfl) (by kernel_rfl) (fun _ _ _ h => h) (Or.inr ⟨by rfl, rfl⟩) (by assumption) ?_
        (try simp only [Act.put, List.getElem_toArray, List.getElem_cons_zero, List.getElem_cons_succ, List.setIfInBounds_toArray, List.set_cons_zero, List.set_cons_succ])
        refine wpAnyH_take (i := 9) (v := undef) rfl (by kernel_rfl) (by kernel_rfl) (by kernel_rfl) (fun _ _ _ h => h) (Or.inr ⟨by rfl, rfl⟩) (by assumption) ?_
        (try simp only [Act.put, List.getElem_toArray, List.getElem_cons_zero, List.getElem_cons_succ, List.setIfInBounds_toArray, List.set_cons_zero, List.set_cons_succ])
        refine wpAnyH_take (i := 10) (v := undef) rfl (by kernel_rfl) (by kernel_rfl) (by kernel_rfl) (fun _ _ _ h => h) (Or.inr ⟨by rfl, rfl⟩) (by assumption) ?_
        (try simp only [Act.put, List.getElem_toArray, List.getElem_cons_zero, List.getElem_cons_succ, List.setIfInBounds_toArray, List.set_cons_zero, List.set_cons_succ])
        refine wpAnyH_take (i := 11) (v := undef) rfl (by kernel_rfl) (by kernel_rfl) (by kernel_rfl) (fun _ _ _ h => h) (Or.inr ⟨by rfl, rfl⟩) (by assumption) ?_
        (try simp only [Act.put, List.getElem_toArray, List.getElem_cons_zero, List.getElem_cons_succ, List.setIfInBounds_toArray, List.set_cons_zero, List.set_cons_succ])
        refine wpAnyH_take (i := 12) (v := undef) rfl (by kernel_rfl) (by kernel_rfl) (by kernel_rfl) (fun _ _ _ h => h) (Or.inr ⟨by rfl, rfl⟩) (by assumption) ?_
        (try simp only [Act.put, List.getElem_toArray, List.getElem_cons_zero, List.getElem_cons_succ, List.setIfInBounds_toArray, List.set_cons_zero, List.set_cons_succ])
        refine wpAnyH_take (i := 13) (v := ?va13x6) rfl (by kernel_rfl) (by kernel_rfl) (by kernel_rfl) (fun _ _ _ h => h) (Or.inl ⟨by rfl, ?hy13x6⟩) (by assumption) ?rest13x6
        case hy13x6 => (intro w hSw; (try dsimp only at hSw); go_simp; try with_reducible rfl)
        (try simp only [Act.put, List.getElem_toArray, List.getElem_cons_zero, List.getElem_cons_succ, List.setIfInBounds_toArray, List.set_cons_zero, List.set_cons_succ])
        refine wpAnyH_take (i := 14) (v := ?va14x7) rfl (by kernel_rfl) (by kernel_rfl) (by kernel_rfl) (fun _ _ _ h => h) (Or.inl ⟨by rfl, ?hy14x7⟩) (by assumption) ?rest14x7
        case hy14x7 => (intro w hSw; (try dsimp only at hSw); go_simp; try with_reducible rfl)
        (try simp only [Act.put, List.getElem_toArray, List.getElem_cons_zero, List.getElem_cons_succ, List.setIfInBounds_toArray, List.set_cons_zero, List.set_cons_succ])
        refine wpAnyH_take (i := 15) (v := ?va15x8) rfl (by kernel_rfl) (by kernel_rfl) (by kernel_rfl) (fun _ _ _ h => h) (Or.inl ⟨by rfl, ?hy15x8⟩) (by assumption) ?rest15x8
        case hy15x8 => (intro w hSw; (try dsimp only at hSw); go_simp; try with_reducible rfl)
        (try simp only [Act.put, List.getElem_toArray, List.getElem_cons_zero, List.getElem_cons_succ, List.setIfInBounds_toArray, List.set_cons_zero, List.set_cons_succ])
        refine wpAnyH_done (by kernel_rfl) ?_ _
        go_wp2_with fail
        go_ret2
        exact ⟨r_bb (HSP.out.symm.trans H1.out.symm) H2.out.symm, bst B2.out hbx B2.out.size⟩
end Go.Proofs.Ytkkigoamphkalaa
namespace Go.Proofs.Ytkkigoamphkalaa.Ph
theorem keepTo_get (h : H) (ks : List Bool) (hll : h.l.length = h.f.length) (j : Nat) (hj : j ≤ h.f.length) : ∀ i, (keepTo h ks j).1.l.getD i false = (h.l.getD i false && (ks.getD i false || decide (j ≤ i))) ∧ (keepTo h ks j).1.f.getD i [] = if h.l.getD i false = true ∧ ks.getD i false = false ∧ i < j then [] else h.f.getD i [] := by
  induction j with
  | zero => exact fun i => ⟨by simp [keepTo], by rw [if_neg (by omega)]; rfl⟩
  | succ j ih =>
    have ih := ih (by omega)
    obtain ⟨e1, e2, _, _⟩ := keepTo_len h ks j
    have hlj : (keepTo h ks j).1.l.getD j false = h.l.getD j false := by rw [(ih j).1]; simp
    by_cases hy : h.l.getD j false = true ∧ ks.getD j false = false
    · rw [keepTo_yes (by rw [hlj]; exact hy.1) hy.2]
      intro i
      simp only
      rw [getD_set (by omega), getD_setL (by omega)]
      by_cases e : i = j
      · subst e
        rw [if_pos rfl, if_pos rfl, if_pos ⟨hy.1, hy.2, by omega⟩, hy.2]
        simp
      · rw [if_neg e, if_neg e, (ih i).1, (ih i).2]
        refine ⟨?_, ?_⟩
        · have : decide (j ≤ i) = decide (j + 1 ≤ i) := by
            by_cases q : j ≤ i
            · rw [decide_eq_true q, decide_eq_true (by omega)]
            · rw [decide_eq_false q, decide_eq_false (by omega)]
          rw [this]
        · by_cases q : h.l.getD i false = true ∧ ks.getD i false = false ∧ i < j
          · rw [if_pos q, if_pos ⟨q.1, q.2.1, by omega⟩]
          · rw [if_neg q, if_neg (fun k => q ⟨k.1, k.2.1, by omega⟩)]
    · have hn : (keepTo h ks j).1.l.getD j false = false ∨ ks.getD j false = true := by
        rw [hlj]
        cases hq : h.l.getD j false with
        | false => exact .inl rfl
        | true =>
          cases hq2 : ks.getD j false with
          | false => exact absurd ⟨hq, hq2⟩ hy
          | true => exact .inr rfl
      rw [keepTo_no hn]
      intro i
      rw [(ih i).1, (ih i).2]
      by_cases e : i = j
      · subst e
        refine ⟨?_, ?_⟩
        · cases hq : h.l.getD i false with
          | false => simp
          | true =>
            cases hq2 : ks.getD i false with
            | false => exact absurd ⟨hq, hq2⟩ hy
            | true => simp
        · rw [if_neg (by omega), if_neg (fun k => hy ⟨k.1, k.2.1⟩)]
      · refine ⟨?_, ?_⟩
        · have : decide (j ≤ i) = decide (j + 1 ≤ i) := by
            by_cases q : j ≤ i
            · rw [decide_eq_true q, decide_eq_true (by omega)]
            · rw [decide_eq_false q, decide_eq_false (by omega)]
          rw [this]
        · by_cases q : h.l.getD i false = true ∧ ks.getD i false = false ∧ i < j
          · rw [if_pos q, if_pos ⟨q.1, q.2.1, by omega⟩]
          · rw [if_neg q, if_neg (fun k => q ⟨k.1, k.2.1, by omega⟩)]
/-- Nothing goes where all that is live is kept. -/
theorem keepTo_all (h : H) (ks : List Bool) (hk : ∀ i, h.l.getD i false = true → ks.getD i false = true) (j : Nat) : keepTo h ks j = (h, 0) := by
  induction j with
  | zero => rfl
  | succ j ih =>
    rw [keepTo_no, ih]
    rw [ih]
    cases hq : h.l.getD j false with
    | false => exact .inl rfl
    | true => exact .inr (hk j hq)
theorem reach_in {h : H} (g : Good h) {k : Nat} (hr : Reach h.f h.r k) : k < h.f.length ∧ h.l.getD k false = true := by
  cases hr with
  | root hz => rcases refs_bound g g.rr _ hz with e | ⟨_, e1, e2⟩
               · omega
               · exact ⟨by omega, by simpa using e2⟩
  | step _ hz => rcases g.field hz with e | ⟨_, e1, e2⟩
                 · omega
                 · exact ⟨by omega, by simpa using e2⟩
structure Cln (h c : H) : Prop where
  l : c.l = reachL h.f h.r
  f : ∀ i, c.f.getD i [] = if (reachL h.f h.r).getD i false = true then h.f.getD i [] else []
  r : c.r = h.r
  n : c.f.length = h.f.length
theorem Cln.of {h : H} (g : Good h) : Cln h (cleanP h).1 := by
  rw [cleanP_yes (good_iff.2 g)]
  obtain ⟨e1, e2, e3, _⟩ := keepTo_len h (reachL h.f h.r) h.f.length
  have get := keepTo_get h (reachL h.f h.r) g.ll h.f.length (Nat.le_refl _)
  have rl : ∀ i, (reachL h.f h.r).getD i false = true → h.l.getD i false = true := fun i hi => (reach_in g (reachL_getD.1 hi).2).2
  refine ⟨?_, fun i => ?_, e3, e1⟩
  · refine eq_reachL (by rw [e2, g.ll]) fun k => ?_
    rw [(get k).1]
    constructor
    · intro q
      simp only [Bool.and_eq_true, Bool.or_eq_true, decide_eq_true_eq] at q
      have hk := getD_lt q.1
      rw [g.ll] at hk
      rcases q.2 with q2 | q2
      · exact reachL_getD.1 q2
      · omega
    · intro q
      have q1 := reachL_getD.2 q
      rw [rl k q1, q1]; rfl
  · rw [(get i).2]
    by_cases q : (reachL h.f h.r).getD i false = true
    · rw [if_pos q, if_neg (fun k => by rw [q] at k; cases k.2.1)]
    · rw [if_neg q]
      by_cases hi : i < h.f.length
      · rcases (g.row i hi).2.1 with hl | hl
        · rw [if_pos ⟨hl, by simpa using q, hi⟩]
        · rw [hl]; split <;> rfl
      · have : h.f.getD i [] = [] := by simp [List.getD, List.getElem?_eq_none (Nat.le_of_not_lt hi)]
        rw [this]; split <;> rfl
theorem Cln.reach {h c : H} (g : Good h) (k : Cln h c) (i : Nat) : Reach c.f c.r i ↔ Reach h.f h.r i := by
  constructor
  · intro q
    induction q with
    | root hz => rw [k.r] at hz; exact .root hz
    | step _ hz ih =>
      rw [k.f] at hz
      split at hz
      · exact .step ih hz
      · simp at hz
  · intro q
    induction q with
    | root hz => exact .root (by rw [k.r]; exact hz)
    | step hy hz ih => exact .step ih (by rw [k.f, if_pos (reachL_getD.2 ⟨(reach_in g hy).1, hy⟩)]; exact hz)
theorem Cln.reachL {h c : H} (g : Good h) (k : Cln h c) : Ph.reachL c.f c.r = Ph.reachL h.f h.r := by
  refine (eq_reachL (fs := c.f) (zs := c.r) (by rw [reachL_length, k.n]) fun i => ?_).symm
  rw [reachL_getD, k.n, k.reach g]
theorem Cln.good {h c : H} (g : Good h) (k : Cln h c) : Good c := by
  have live : ∀ z : Int, 0 ≤ z → Reach h.f h.r z.toNat → refB c.l z = true := fun z z0 hr => refB_iff.2 (.inr (liveB_iff.2 ⟨z0, by rw [k.l]; exact reachL_getD.2 ⟨(reach_in g hr).1, hr⟩⟩))
  have ref : ∀ (zs : List Int), (∀ z ∈ zs, z = -1 ∨ (0 ≤ z ∧ Reach h.f h.r z.toNat)) → refsB c.l zs = true := fun zs hz => refsB_iff.2 fun z q => by
    rcases hz z q with e | ⟨e1, e2⟩
    · exact refB_iff.2 (.inl e)
    · exact live z e1 e2
  refine ⟨by rw [k.n]; exact g.n, by rw [k.l, reachL_length, k.n], fun i hi => ?_, by rw [k.r]; exact g.rn, ?_⟩
  · rw [k.n] at hi
    rw [k.f]
    by_cases q : (Ph.reachL h.f h.r).getD i false = true
    · rw [if_pos q]
      refine ⟨(g.row i hi).1, .inl (by rw [k.l]; exact q), ref _ fun z hz => ?_⟩
      rcases g.field hz with e | ⟨e1, _, _⟩
      · exact .inl e
      · exact .inr ⟨e1, .step (reachL_getD.1 q).2 (by rw [Int.toNat_of_nonneg e1]; exact hz)⟩
    · rw [if_neg q]
      exact ⟨by simp, .inr rfl, rfl⟩
  · rw [k.r]
    refine ref _ fun z hz => ?_
    rcases refs_bound g g.rr z hz with e | ⟨e1, _, _⟩
    · exact .inl e
    · exact .inr ⟨e1, .root (by rw [Int.toNat_of_nonneg e1]; exact hz)⟩
/-- What the law asks of a collection. -/
theorem clean_facts {h : H} (hg : good h = true) : good (cleanP h).1 = true ∧ sameQ h (cleanP h).1 = true ∧ both h (cleanP h).1 = true ∧ reachR (cleanP h).1 = reachR h ∧ (cleanP h).1.l = reachR h ∧ ((cleanP (cleanP h).1).2 : Nat) = 0 ∧ (reachR h).length = h.f.length ∧ (∀ k, (reachR h).getD k false = true → ∀ y ∈ h.f.getD k [], 0 ≤ y → (reachR h).getD y.toNat false = true) := by
  have g := good_iff.1 hg
  have k := Cln.of g
  have gc := k.good g
  have hgc := good_iff.2 gc
  have hb : both h (cleanP h).1 = true := by unfold both; rw [hg, hgc]; rfl
  have hs : Same h (cleanP h).1 := ⟨k.r.symm, fun i => ⟨(k.reach g i).symm, fun q => by rw [k.f, if_pos (reachL_getD.2 ⟨(reach_in g q).1, q⟩)]⟩⟩
  have hr : reachR (cleanP h).1 = reachR h := by rw [reachR_yes hgc, reachR_yes hg]; exact k.reachL g
  refine ⟨hgc, by unfold sameQ; rw [hb, sameP_iff.2 hs]; rfl, hb, hr, by rw [reachR_yes hg]; exact k.l, ?_, by rw [reachR_yes hg, reachL_length], fun i hi y hy y0 => ?_⟩
  · rw [cleanP_yes hgc, keepTo_all _ _ (fun i hi => ?_)]
    rw [k.reachL g, ← k.l]; exact hi
  · rw [reachR_yes hg] at hi ⊢
    have hy' : ((y.toNat : Nat) : Int) ∈ h.f.getD i [] := by rw [Int.toNat_of_nonneg y0]; exact hy
    have hr : Reach h.f h.r y.toNat := .step (reachL_getD.1 hi).2 hy'
    exact reachL_getD.2 ⟨(reach_in g hr).1, hr⟩
end Go.Proofs.Ytkkigoamphkalaa.Ph
namespace Go.Proofs.Ytkkigoamphkalaa.Ph
noncomputable def smO (a b : H) (k : Nat) : Bool := ((reachL a.f a.r).getD k false == (reachL b.f b.r).getD k false) && (!((reachL a.f a.r).getD k false) || @decide (a.f.getD k [] = b.f.getD k []) (Classical.propDecidable _))
noncomputable def smB (a b : H) (n : Nat) : Bool := (List.range n).all (smO a b)
theorem smB_succ {a b : H} {n : Nat} : smB a b (n + 1) = (smB a b n && smO a b n) := by simp [smB, List.range_succ]
theorem smB_same {a b : H} (ga : Ph.Good a) (hr : a.r = b.r) {n : Nat} (h1 : a.f.length ≤ n) (hs : smB a b n = true) : sameP a b = true := by
  refine sameP_iff.2 (same_of hr fun k hk => ?_)
  have hl := reach_live ga hk
  have h3 := (List.all_eq_true.1 hs) k (by simp; omega)
  unfold smO at h3
  rw [reachL_getD.2 ⟨hl.2, hk⟩] at h3
  simp only [Bool.not_true, Bool.false_or, Bool.and_eq_true, decide_eq_true_eq] at h3
  exact h3.2
theorem sm_false {a b : H} (ga : Ph.Good a) (gb : Ph.Good b) {k : Nat} (hn : smO a b k = false) : sameP a b = false := by
  refine sameP_false fun ⟨hr, hs⟩ => ?_
  have : smO a b k = true := by
    unfold smO
    by_cases hq : (reachL a.f a.r).getD k false = true
    · have h1 := (reachL_getD.1 hq).2
      have h3 := (hs k).1.1 h1
      rw [hq, reachL_getD.2 ⟨(reach_live gb h3).2, h3⟩]; simp only [Bool.not_true, Bool.false_or, Bool.and_eq_true, decide_eq_true_eq]; exact ⟨rfl, (hs k).2 h1⟩
    · have hq' : (reachL a.f a.r).getD k false = false := by simpa using hq
      by_cases h2 : (reachL b.f b.r).getD k false = true
      · have h3 := (hs k).1.2 (reachL_getD.1 h2).2
        exact absurd (reachL_getD.2 ⟨(reach_live ga h3).2, h3⟩) hq
      · have h2' : (reachL b.f b.r).getD k false = false := by simpa using h2
        rw [hq', h2']; rfl
  rw [hn] at this; cases this
theorem smO_ne {a b : H} {k : Nat} (h : (reachL a.f a.r).getD k false ≠ (reachL b.f b.r).getD k false) : smO a b k = false := by
  unfold smO
  have : ((reachL a.f a.r).getD k false == (reachL b.f b.r).getD k false) = false := by simpa using h
  rw [this]; rfl
theorem smO_no {a b : H} {k : Nat} (h1 : (reachL a.f a.r).getD k false = false) (h2 : (reachL b.f b.r).getD k false = false) : smO a b k = true := by unfold smO; rw [h1, h2]; rfl
theorem smO_yes {a b : H} {k : Nat} (h1 : (reachL a.f a.r).getD k false = true) (h2 : (reachL b.f b.r).getD k false = true) : smO a b k = @decide (a.f.getD k [] = b.f.getD k []) (Classical.propDecidable _) := by unfold smO; rw [h1, h2]; rfl
end Go.Proofs.Ytkkigoamphkalaa.Ph
namespace Go.Proofs.Ytkkigoamphkalaa
open Go.RowKit Ph

set_option maxRecDepth 100000 in
set_option maxHeartbeats 6400000 in
theorem s_l5Same (a1 b1 c1 a2 b2 c2 : Value) (x y : H) (w : World) (hA : HeapAt w a1 b1 c1 x) (hB : HeapAt w a2 b2 c2 y) (hgx : Ph.Good x) (hgy : Ph.Good y) :
    Calls Try.prog 96 #[hv a1 b1 c1, hv a2 b2 c2] w fun e w' => e = .returned (.bool (sameP x y)) ∧ Below w.heap.size w w' := by
  have hb0 := (below1 w (.cells (c3 a1 b1 c1) 30)).alloc (by simp) (.cells (c3 a2 b2 c2) 30)
  have A0 := Lib.hid (hA.below hb0); have B0 := Lib.hid (hB.below hb0)
  have HB := Lib.hid hb0
  have P0 := Lib.hid (show RowH _ _ a1 b1 c1 from (Row.new w 30 (c3 a1 b1 c1)).alloc (.cells (c3 a2 b2 c2) 30))
  have Q0 := Lib.hid (show RowH _ (w.heap.size + 1) a2 b2 c2 from Row.new1 w (.cells (c3 a1 b1 c1) 30) 30 (c3 a2 b2 c2))
  have GX := Lib.hid hgx; have GY := Lib.hid hgy
  obtain ⟨fa, fc, rfl⟩ := hA.f.shape
  obtain ⟨ra, rc, rfl⟩ := hA.r.shape
  obtain ⟨ga, gc, rfl⟩ := hB.f.shape
  obtain ⟨sa, sc, rfl⟩ := hB.r.shape
  have hn12 := hgx.n
  have hm12 := hgy.n
  clear hA hB hgx hgy hb0
  have p0 := P0.out.c0
  have p1 := P0.out.c1
  have p2 := P0.out.c2
  go_enter Try.func96, Try.ntmps96
  go_wp2_with fail
  refine (s_l5Reached _ _ _ x _ A0.out GX.out).mono ?_
  rintro e w1 ⟨k1, rfl, ho1, hb1⟩
  obtain ⟨u1, v1, hk1⟩ := (owns_bools ho1).shape
  rw [reachL_length] at hk1
  subst hk1
  have X1 := Lib.hid (A0.out.below hb1); have Y1 := Lib.hid (B0.out.below hb1); have P1 := Lib.hid (P0.out.below hb1); have Q1 := Lib.hid (Q0.out.below hb1); have L1 := Lib.hid (bst HB.out hb1 HB.out.size); have K1 := Lib.hid (owns_bools ho1)
  clear ho1 hb1 p0 p1 p2
  have q0 := Q1.out.c0
  have q1 := Q1.out.c1
  have q2 := Q1.out.c2
  go_wp2_with fail
  refine (s_l5Reached _ _ _ y _ Y1.out GY.out).mono ?_
  rintro e w2 ⟨k2, rfl, ho2, hb2⟩
  obtain ⟨u2, v2, hk2⟩ := (owns_bools ho2).shape
  rw [reachL_length] at hk2
  subst hk2
  have X2 := Lib.hid (X1.out.below hb2); have Y2 := Lib.hid (Y1.out.below hb2); have P2 := Lib.hid (P1.out.below hb2); have Q2 := Lib.hid (Q1.out.below hb2); have L2 := Lib.hid (bst L1.out hb2 L1.out.size); have K2 := Lib.hid (owns_bools ho2); have K12 := Lib.hid (K1.out.below hb2)
  clear ho2 hb2 q0 q1 q2
  have HRS := Lib.hid (s_l1Same (.slice ra x.r.length rc) (.slice sa y.r.length sc) x.r y.r w2 X2.out.r Y2.out.r (by have := GX.out.rn; omega))
  have HSN : Hid (¬ x.r = y.r → sameP x y = false) := sameP_roots
  have c0 := P2.out.c2
  have d0 := Q2.out.c2
  by_cases hxy : ¬ x.r = y.r
  · have hd : decide (x.r = y.r) = false := decide_eq_false hxy
    have HSP := Lib.hid (HSN.out hxy)
    rw [hd] at HRS
    clear hd hxy
    go_wp2_with (go_at_call 143; refine HRS.out.mono ?_; rintro e w3 ⟨rfl, nd, rfl⟩)
    go_ret
    exact ⟨r_b HSP.out.symm, below_drewN L2.out nd⟩
  replace hxy := Classical.not_not.1 hxy
  have hd : decide (x.r = y.r) = true := decide_eq_true hxy
  have HXY := Lib.hid hxy
  rw [hd] at HRS
  clear hd hxy
  go_wp2_with (go_at_call 143; refine HRS.out.mono ?_; rintro e w3 ⟨rfl, nd, rfl⟩)
  clear c0 d0
  have B3 : Below w2.heap.size w2 (w2.drewN nd) := below_drewN (Below.refl _ _) nd
  have X3 := Lib.hid (X2.out.below B3); have Y3 := Lib.hid (Y2.out.below B3); have P3 := Lib.hid (P2.out.below B3); have Q3 := Lib.hid (Q2.out.below B3); have L3 := Lib.hid (bst L2.out B3 L2.out.size); have K13 := Lib.hid (K12.out.below B3); have K23 := Lib.hid (K2.out.below B3)
  clear B3
  generalize w2.drewN nd = w3 at *
  generalize hn : x.f.length = n at *
  generalize hm : y.f.length = m at *
  have HN := Lib.hid hn; have HM := Lib.hid hm
  clear hn hm
  go_loopw [7] (fun i wr => ∃ k : Nat, (k ≤ n ∨ k ≤ m) ∧ i = .int .i64 k ∧ Hid (smB x y k = true) ∧ ∃ nd, wr = w3.drewN nd) (fun i _ => n + m - (intOf i).toNat)
  case atStart => exact ⟨0, .inl (Nat.zero_le _), rfl, by simp [Hid, smB], drewN_refl _⟩
  case round =>
    obtain ⟨k, hk, rfl, ht, nr, rfl⟩ := hrel
    have hp : (w3.drewN nr).cell? ⟨w.heap.size, 0, none⟩ = some (.slice fa n fc) := P3.out.c0
    have hq : (w3.drewN nr).cell? ⟨w.heap.size + 1, 0, none⟩ = some (.slice ga m gc) := Q3.out.c0
    have hfx : ∀ b, (reachL x.f x.r).getD k false = b → b = true → k < n := fun b h1 h2 => by rw [h2] at h1; have := (reachL_getD.1 h1).1; rw [HN.out] at this; exact this
    have hfy : ∀ b, (reachL y.f y.r).getD k false = b → b = true → k < m := fun b h1 h2 => by rw [h2] at h1; have := (reachL_getD.1 h1).1; rw [HM.out] at this; exact this
    have hSU := smB_succ (a := x) (b := y) (n := k)
    rw [ht.out, Bool.true_and] at hSU
    have HSU := Lib.hid hSU
    have hne := smO_ne (a := x) (b := y) (k := k)
    have hno := smO_no (a := x) (b := y) (k := k)
    have hye := smO_yes (a := x) (b := y) (k := k)
    have HNE : Hid ((reachL x.f x.r).getD k false ≠ (reachL y.f y.r).getD k false → sameP x y = false) := fun h => sm_false GX.out GY.out (hne h)
    have HNO : Hid ((reachL x.f x.r).getD k false = false → (reachL y.f y.r).getD k false = false → smB x y (k + 1) = true) := fun h1 h2 => hSU.trans (hno h1 h2)
    have HYE : Hid ((reachL x.f x.r).getD k false = true → (reachL y.f y.r).getD k false = true → ((x.f.getD k [] = y.f.getD k [] → smB x y (k + 1) = true) ∧ (¬ x.f.getD k [] = y.f.getD k [] → sameP x y = false))) := fun h1 h2 => ⟨fun h3 => hSU.trans ((hye h1 h2).trans (by simpa using h3)), fun h3 => sm_false GX.out GY.out ((hye h1 h2).trans (by simpa using h3))⟩
    clear hSU hne hno hye
    have j1 : (0 : Int) ≤ (k : Int) := by omega
    have kb : k ≤ 12 := by omega
    have QX : Hid (k < n → ∃ b o, u1 = some ⟨b, o, none⟩ ∧ (w3.drewN nr).cell? ⟨b, o + k, none⟩ = some (.bool ((reachL x.f x.r).getD k false))) := fun h => by
      obtain ⟨b, o, hb, hc⟩ := K13.out.at' (by omega)
      exact ⟨b, o, hb, hc k h⟩
    have QY : Hid (k < m → ∃ b o, u2 = some ⟨b, o, none⟩ ∧ (w3.drewN nr).cell? ⟨b, o + k, none⟩ = some (.bool ((reachL y.f y.r).getD k false))) := fun h => by
      obtain ⟨b, o, hb, hc⟩ := K23.out.at' (by omega)
      exact ⟨b, o, hb, hc k h⟩
    have FX : Hid (k < n → ∃ b o u c, fa = some ⟨b, o, none⟩ ∧ (w3.drewN nr).cell? ⟨b, o + k, none⟩ = some (.slice u (x.f.getD k []).length c) ∧ IntsAt w3 (.slice u (x.f.getD k []).length c) (x.f.getD k [])) := fun h => by
      obtain ⟨b, o, hb, hc⟩ := X3.out.f.at' (by omega)
      obtain ⟨u, h1, h2⟩ := hc k h
      obtain ⟨p, c, rfl⟩ := h2.shape
      exact ⟨b, o, p, c, hb, h1, h2⟩
    have FY : Hid (k < m → ∃ b o u c, ga = some ⟨b, o, none⟩ ∧ (w3.drewN nr).cell? ⟨b, o + k, none⟩ = some (.slice u (y.f.getD k []).length c) ∧ IntsAt w3 (.slice u (y.f.getD k []).length c) (y.f.getD k [])) := fun h => by
      obtain ⟨b, o, hb, hc⟩ := Y3.out.f.at' (by omega)
      obtain ⟨u, h1, h2⟩ := hc k h
      obtain ⟨p, c, rfl⟩ := h2.shape
      exact ⟨b, o, p, c, hb, h1, h2⟩
    have HLX : Hid (k < n → (x.f.getD k []).length ≤ 3) := fun h => (GX.out.row k (by rw [HN.out]; exact h)).1
    generalize hpx : (reachL x.f x.r).getD k false = p at *
    generalize hpy : (reachL y.f y.r).getD k false = q at *
    have hpn : p = true → k < n := hfx p rfl
    have hqm : q = true → k < m := hfy q rfl
    have HPX := Lib.hid hpx; have HPY := Lib.hid hpy
    clear hpx hpy hfx hfy
    by_cases hx : k < n
    · obtain ⟨bx, ox, rfl, qx⟩ := QX.out hx
      have i1 : (k : Int) < (n : Int) := by omega
      by_cases hy : k < m
      · obtain ⟨bz, oy, rfl, qy⟩ := QY.out hy
        have i2 : (k : Int) < (m : Int) := by omega
        clear QX QY hpn hqm
        cases p
        · cases q
          · skip
            have HE := Lib.hid (HNO.out rfl rfl)
            go_wp2_with fail
            go_quiet (fail)
            go_wp2_with fail
            go_roundw
            case rel => exact ⟨k + 1, by omega, by go_num, HE, nr + nq, by simp⟩
            case measure => simp [intOf]; omega
          · skip
            have HE := Lib.hid (HNE.out (by simp))
            go_wp2_with fail
            go_quiet (fail)
            go_wp2_with fail
            go_ret
            exact ⟨r_b HE.out.symm, below_drewN (below_drewN L3.out _) _⟩
        · cases q
          · skip
            have HE := Lib.hid (HNE.out (by simp))
            go_wp2_with fail
            go_quiet (fail)
            go_wp2_with fail
            go_ret
            exact ⟨r_b HE.out.symm, below_drewN (below_drewN L3.out _) _⟩
          · skip
            have hye := HYE.out rfl rfl
            obtain ⟨fb, fo, fu, fw, rfl, qf, hf⟩ := FX.out hx
            obtain ⟨gb, go, gu, gw, rfl, qg, hg⟩ := FY.out hy
            have HCQ : Hid (∀ mm, Calls Try.prog 143 #[.slice fu (x.f.getD k []).length fw, .slice gu (y.f.getD k []).length gw] ((w3.drewN nr).drewN mm) fun e w' => e = .returned (.bool (decide (x.f.getD k [] = y.f.getD k []))) ∧ ∃ n, w' = ((w3.drewN nr).drewN mm).drewN n) := fun mm => s_l1Same _ _ _ _ _ ((hf.drewN nr).drewN mm) ((hg.drewN nr).drewN mm) (by have := HLX.out hx; omega)
            have HY1 := Lib.hid hye.1; have HY2 := Lib.hid hye.2
            clear hye hf hg
            generalize (x.f.getD k []).length = lx at *
            generalize (y.f.getD k []).length = ly at *
            by_cases hfe : x.f.getD k [] = y.f.getD k []
            · have HE := Lib.hid (HY1.out hfe)
              have hdq : decide (x.f.getD k [] = y.f.getD k []) = true := decide_eq_true hfe
              rw [hdq] at HCQ
              clear hdq hfe
              go_wp2_with fail
              generalize hwd : w3.drewN nr = wd at *
              have HWD := Lib.hid hwd; clear hwd
              go_quiet ((go_at_call 143; exact Calls.quiet_of (HCQ.out _)))
              go_wp2_with fail
              go_roundw
              case rel => exact ⟨k + 1, by omega, by go_num, HE, nr + nq, by rw [← HWD.out]; simp⟩
              case measure => simp [intOf]; omega
            · have HE := Lib.hid (HY2.out hfe)
              have hdq : decide (x.f.getD k [] = y.f.getD k []) = false := decide_eq_false hfe
              rw [hdq] at HCQ
              clear hdq hfe
              go_wp2_with fail
              generalize hwd : w3.drewN nr = wd at *
              have HWD := Lib.hid hwd; clear hwd
              go_quiet ((go_at_call 143; exact Calls.quiet_of (HCQ.out _)))
              go_wp2_with fail
              go_ret
              exact ⟨r_b HE.out.symm, by rw [← HWD.out]; exact below_drewN (below_drewN L3.out _) _⟩
      · have i2 : ¬ (k : Int) < (m : Int) := by omega
        cases q
        · clear QX QY hpn hqm
          cases p
          · skip
            have HE := Lib.hid (HNO.out rfl rfl)
            go_wp2_with fail
            go_quiet (fail)
            go_wp2_with fail
            go_roundw
            case rel => exact ⟨k + 1, by omega, by go_num, HE, nr + nq, by simp⟩
            case measure => simp [intOf]; omega
          · skip
            have HE := Lib.hid (HNE.out (by simp))
            go_wp2_with fail
            go_quiet (fail)
            go_wp2_with fail
            go_ret
            exact ⟨r_b HE.out.symm, below_drewN (below_drewN L3.out _) _⟩
        · exact absurd (hqm rfl) hy
    · have i1 : ¬ (k : Int) < (n : Int) := by omega
      cases p
      · by_cases hy : k < m
        · obtain ⟨bz, oy, rfl, qy⟩ := QY.out hy
          have i2 : (k : Int) < (m : Int) := by omega
          clear QX QY hpn hqm
          cases q
          · skip
            have HE := Lib.hid (HNO.out rfl rfl)
            go_wp2_with fail
            go_quiet (fail)
            go_wp2_with fail
            go_roundw
            case rel => exact ⟨k + 1, by omega, by go_num, HE, nr + nq, by simp⟩
            case measure => simp [intOf]; omega
          · skip
            have HE := Lib.hid (HNE.out (by simp))
            go_wp2_with fail
            go_quiet (fail)
            go_wp2_with fail
            go_ret
            exact ⟨r_b HE.out.symm, below_drewN (below_drewN L3.out _) _⟩
        · have i2 : ¬ (k : Int) < (m : Int) := by omega
          have HE := Lib.hid (smB_same GX.out HXY.out (by rw [HN.out]; omega) ht.out)
          go_wp2_with fail
          go_ret
          exact ⟨r_b HE.out.symm, below_drewN L3.out _⟩
      · exact absurd (hpn rfl) hx
end Go.Proofs.Ytkkigoamphkalaa
namespace Go.Proofs.Ytkkigoamphkalaa
open Go.RowKit Ph

set_option maxRecDepth 100000 in
set_option maxHeartbeats 6400000 in
theorem s_SameReached (a1 b1 c1 a2 b2 c2 : Value) (x y : H) (w : World) (hA : HeapAt w a1 b1 c1 x) (hB : HeapAt w a2 b2 c2 y) :
    Calls Try.prog 31 #[hv a1 b1 c1, hv a2 b2 c2] w fun e w' => e = .returned (.tuple #[.bool (sameQ x y), .bool (both x y)]) ∧ Below w.heap.size w w' := by
  have hb0 := (below1 w (.cells (c3 a1 b1 c1) 30)).alloc (by simp) (.cells (c3 a2 b2 c2) 30)
  have A0 := Lib.hid (hA.below hb0); have B0 := Lib.hid (hB.below hb0)
  have HB := Lib.hid hb0
  have P0 := Lib.hid (show RowH _ _ a1 b1 c1 from (Row.new w 30 (c3 a1 b1 c1)).alloc (.cells (c3 a2 b2 c2) 30))
  have Q0 := Lib.hid (show RowH _ (w.heap.size + 1) a2 b2 c2 from Row.new1 w (.cells (c3 a1 b1 c1) 30) 30 (c3 a2 b2 c2))
  have GA := Lib.hid (good_iff (h := x)).1; have GB := Lib.hid (good_iff (h := y)).1
  have h2 : both x y = (good x && good y) := rfl
  have h1 : sameQ x y = ((good x && good y) && sameP x y) := rfl
  have HCA : Hid (∀ w', HeapAt w' a1 b1 c1 x → Calls Try.prog 80 #[hv a1 b1 c1] w' fun e w'' => e = .returned (.bool (good x)) ∧ Below w'.heap.size w' w'') := fun w' h => s_GoodHeap a1 b1 c1 x w' h
  have HCB : Hid (∀ w', HeapAt w' a2 b2 c2 y → Calls Try.prog 80 #[hv a2 b2 c2] w' fun e w'' => e = .returned (.bool (good y)) ∧ Below w'.heap.size w' w'') := fun w' h => s_GoodHeap a2 b2 c2 y w' h
  have p0 := P0.out.c0
  have p1 := P0.out.c1
  have p2 := P0.out.c2
  have q0 := Q0.out.c0
  have q1 := Q0.out.c1
  have q2 := Q0.out.c2
  generalize both x y = r2 at *
  generalize sameQ x y = r1 at *
  generalize good x = gx at *
  generalize good y = gy at *
  cases gx
  · have H1 : Hid (r1 = false) := by unfold Hid; rw [h1]; rfl
    have H2 : Hid (r2 = false) := by unfold Hid; rw [h2]; rfl
    clear h1 h2 hA hB
    go_enter Try.func31, Try.ntmps31
    go_wp2_with (go_at_call 80; refine (HCA.out _ A0.out).mono ?_; rintro e w1 ⟨rfl, hb1⟩; have B1 := Lib.hid (bst HB.out hb1 HB.out.size); clear hb1)
    go_ret2
    exact ⟨r_bb H1.out.symm H2.out.symm, B1.out⟩
  · cases gy
    · have H1 : Hid (r1 = false) := by unfold Hid; rw [h1]; rfl
      have H2 : Hid (r2 = false) := by unfold Hid; rw [h2]; rfl
      clear h1 h2 hA hB
      go_enter Try.func31, Try.ntmps31
      go_wp2_with (first
        | (go_at_call 80; refine (HCB.out _ Y1.out).mono ?_; rintro e w2 ⟨rfl, hb2⟩; have B2 := Lib.hid (bst B1.out hb2 B1.out.size); clear hb2)
        | (go_at_call 80; refine (HCA.out _ A0.out).mono ?_; rintro e w1 ⟨rfl, hb1⟩; have B1 := Lib.hid (bst HB.out hb1 HB.out.size); have Y1 := Lib.hid (B0.out.below hb1); have Q1 := Lib.hid (Q0.out.below hb1); have s0 := Q1.out.c0; have s1 := Q1.out.c1; have s2 := Q1.out.c2; clear hb1))
      go_ret2
      exact ⟨r_bb H1.out.symm H2.out.symm, B2.out⟩
    · have H2 : Hid (r2 = true) := by unfold Hid; rw [h2]; rfl
      have H1 : Hid (r1 = sameP x y) := by unfold Hid; rw [h1]; rfl
      have GX := Lib.hid (GA.out rfl); have GY := Lib.hid (GB.out rfl)
      clear h1 h2 hA hB
      go_enter Try.func31, Try.ntmps31
      go_wp2_with (first
        | (go_at_call 80; refine (HCB.out _ Y1.out).mono ?_; rintro e w2 ⟨rfl, hb2⟩; have B2 := Lib.hid (bst B1.out hb2 B1.out.size); have X2 := Lib.hid (X1.out.below hb2); have Y2 := Lib.hid (Y1.out.below hb2); have P2 := Lib.hid (P1.out.below hb2); have Q2 := Lib.hid (Q1.out.below hb2); have t0 := P2.out.c0; have t1 := P2.out.c1; have t2 := P2.out.c2; have v0 := Q2.out.c0; have v1 := Q2.out.c1; have v2 := Q2.out.c2; clear hb2)
        | (go_at_call 80; refine (HCA.out _ A0.out).mono ?_; rintro e w1 ⟨rfl, hb1⟩; have B1 := Lib.hid (bst HB.out hb1 HB.out.size); have X1 := Lib.hid (A0.out.below hb1); have Y1 := Lib.hid (B0.out.below hb1); have P1 := Lib.hid (P0.out.below hb1); have Q1 := Lib.hid (Q0.out.below hb1); have s0 := Q1.out.c0; have s1 := Q1.out.c1; have s2 := Q1.out.c2; clear hb1)
        | (go_at_call 96; refine (s_l5Same a1 b1 c1 a2 b2 c2 x y _ X2.out Y2.out GX.out GY.out).mono ?_; rintro e w5 ⟨rfl, hb5⟩; have B5 := Lib.hid (bst B2.out hb5 B2.out.size); clear hb5))
      go_ret2
      exact ⟨r_bb H1.out.symm H2.out.symm, B5.out⟩
end Go.Proofs.Ytkkigoamphkalaa
namespace Go.Proofs.Ytkkigoamphkalaa
open Go.ChangeShapes Go.WideShapes Go.ChangeAt Go.RowKit

theorem own : ownKnob Try.prog.godebug = none := by kernel_rfl
theorem laidOut : laidOutB Try.prog = true := by kernel_rfl

section
variable {H : Type} {enc : TypeId × Value → H} {P : Program}
theorem trodAll_below (hl : laidOutB P = true) {W W' : World} (hb : Below W.heap.size W W') :
    ∀ (ts : List TypeId) (vs : List Value) (ds : List (DataW H)) (ps : List MemPlace), (∀ t ∈ ts, P.readableRec t = true ∧ t < P.types.size) →
      DataW.TrodAll enc P W 0 (fun _ => true) true ts vs ds ps → (∀ x ∈ ps, x.block < W.heap.size) →
      DataW.TrodAll enc P W' 0 (fun b => decide (b < W.heap.size)) true ts vs ds ps
  | [], [], [], _, _, h, _ => h
  | t :: ts, v :: vs, d :: ds, ps, hr, h, hlt => by
    obtain ⟨p, q, h1, h2, rfl⟩ := h
    exact ⟨p, q, Below.trod hl (hr t (by simp)).1 (hr t (by simp)).2 h1 hb (fun x hx => hlt x (by simp [hx])),
      trodAll_below hl hb ts vs ds q (fun t ht => hr t (by simp [ht])) h2 (fun x hx => hlt x (by simp [hx])), rfl⟩
  | [], [], _ :: _, _, _, h, _ => h.elim
  | [], _ :: _, _, _, _, h, _ => h.elim
  | _ :: _, [], _, _, _, h, _ => h.elim
  | _ :: _, _ :: _, [], _, _, h, _ => h.elim
theorem var_lt {W : World} {n : String} {g : Nat} {cs : Array Value} (hg : P.globalNamed n = some g) (hv : W.var? P n = some cs) : g < W.heap.size := by
  unfold World.var? at hv
  simp only [hg, Option.bind_some] at hv
  by_cases h : g < W.heap.size
  · exact h
  · have hn : W.heap[g]? = none := by simp; omega
    simp [hn] at hv
theorem trodVars_below (hl : laidOutB P = true) {W W' : World} (hb : Below W.heap.size W W') :
    ∀ (ns : List String) (ds : List (DataW H)) (ps : List MemPlace), (∀ n ∈ ns, ∀ g t, P.globalNamed n = some g → (P.globals[g]?).map (·.type) = some t → P.readableRec t = true ∧ t < P.types.size) →
      DataW.TrodVars enc P W (fun _ => true) ns ds ps → (∀ x ∈ ps, x.block < W.heap.size) →
      DataW.TrodVars enc P W' (fun b => decide (b < W.heap.size)) ns ds ps
  | [], [], _, _, h, _ => h
  | n :: ns, d :: ds, ps, hr, h, hlt => by
    obtain ⟨g, t, cs, fuel, p, q, h1, h2, h3, h4, h5, rfl⟩ := h
    have ht : DataW.Trod enc P W 0 (fun _ => true) true t (.agg cs) d p := ⟨fuel, h4⟩
    obtain ⟨fuel', h4'⟩ := Below.trod hl (hr n (by simp) g t h1 h2).1 (hr n (by simp) g t h1 h2).2 ht hb (fun x hx => hlt x (by simp [hx]))
    exact ⟨g, t, cs, fuel', p, q, h1, h2, var?_below hb h1 (var_lt h1 h3) h3, h4', trodVars_below hl hb ns ds q (fun n hn => hr n (by simp [hn])) h5 (fun x hx => hlt x (by simp [hx])), rfl⟩
  | [], _ :: _, _, _, h, _ => h.elim
  | _ :: _, [], _, _, h, _ => h.elim

/-- THE END OF A LAW: it answered true, nothing old has turned. -/
theorem law_post {fn : Func} {s : ChangeSpec} {W W' : World} {args : Array Value} {ds gs : List (DataW H)} {before : List MemPlace} {tb : TypeId} (hl : laidOutB P = true)
    (hps : ∀ t ∈ fn.params.toList, P.readableRec t = true ∧ t < P.types.size) (hvs : ∀ n ∈ s.vars, ∀ g t, P.globalNamed n = some g → (P.globals[g]?).map (·.type) = some t → P.readableRec t = true ∧ t < P.types.size)
    (hW : DataW.Whole enc P fn.params.toList s.vars false W args.toList ds gs before) (hb : Below W.heap.size W W') (hs : s.fn H (ds ++ gs) = { results := [.lit (.bool true)], args := ds, vars := gs })
    (hr : fn.resultTypes = #[tb]) (ht : P.underlying tb = some .bool) : s.post enc P fn false true false false W args (.bool true) W' := by
  have hW' := hW
  obtain ⟨p, q, hA, hV, rfl, hfz, hnd⟩ := hW
  have hlt : ∀ x ∈ p ++ q, x.block < W.heap.size := fun x hx => hW'.lt x hx
  refine ⟨ds, gs, p ++ q, [], p, q, hW', ?_, ?_, ?_, hb.frame _, fun h => by cases h⟩
  · rw [hs, hr]
    exact trodAll_cons_mk (shut_bool ht _) trodAll_mk0
  · rw [hs]
    exact trodAll_below hl hb _ _ _ _ hps hA (fun x hx => hlt x (by simp [hx]))
  · rw [hs]
    exact trodVars_below hl hb _ _ _ hvs hV (fun x hx => hlt x (by simp [hx]))
end

theorem r_bytes : Try.prog.readableRec 75 = true ∧ 75 < Try.prog.types.size := ⟨by kernel_rfl, of_decide_eq_true (by kernel_rfl)⟩
theorem cellsByte : Try.prog.cellsOf 5 = 1 := by kernel_rfl
set_option maxRecDepth 100000 in
theorem bytes_of_arg {H : Type} {enc : TypeId × Value → H} {W : World} {base : Nat} {v : Value} {d : DataW H} {p : List MemPlace} (hval : Value.okWide Try.prog W .any base 75 v)
    (h : DataW.Trod enc Try.prog W 0 (fun _ => true) true 75 v d p) : ∃ zs, BytesAt W v zs := by
  obtain ⟨a0, len, cap, rfl⟩ := okWide_slice Try.underlying75 hval
  obtain ⟨fuel, hf⟩ := h
  rcases open_ints Try.underlying75 Try.underlying5 cellsByte hf with ⟨hcs, hx⟩ | ⟨a, len', cap', zs, hcs, _, hl, hm, hz, hx, hcell, hwz⟩
  · simp [Value.cells] at hcs
    obtain ⟨rfl, rfl, rfl⟩ := hcs
    exact ⟨[], by simp, by simp, none, 0, rfl, fun h => absurd h (by simp)⟩
  · simp [Value.cells] at hcs
    obtain ⟨rfl, rfl, rfl⟩ := hcs
    simp only [if_true] at hz
    have hlen : (zs.take len).length = len := by rw [List.length_take]; omega
    refine ⟨zs.take len, by rw [hlen]; unfold maxLen at hm; omega, fun z hz => ?_, some a, cap, by rw [hlen], fun h0 => ?_⟩
    · exact bounds_u8 (hwz z (List.mem_of_mem_take hz))
    rw [hlen] at h0 ⊢
    obtain ⟨b, off, rfl, hc⟩ := ints_at hcell (by omega)
    refine ⟨b, off, rfl, fun i hi => ?_⟩
    rw [hc i (by omega)]
    simp [List.getD, hi]
end Go.Proofs.Ytkkigoamphkalaa
