/- laws.FnExactGoodTree: for every input the law answers true, and the input reads as it did. No condition. -/
import Derived.Test.YtejaebmbhcgngaaHB3
namespace Go.Proofs.Ytejaebmbhcgngaa
open Go.RowKit Ph Tr

set_option maxHeartbeats 12800000 in
set_option maxRecDepth 100000 in
theorem core_FnExactGoodTree (a b c : Value) (x : T) (ok : Bool) (w : World) (hzx : TreeAt w a b c x) (hm : wtT x ≤ 1048576) 
    (hS : ∀ (w : World) (a b c : Value), TreeAt w a b c x → Calls Try.prog 21 #[tv a b c x.t] w (fun e w' => e = .returned (.bool ok) ∧ Below w.heap.size w w'))
    (hI : ∀ (w : World) (a b c : Value), TreeAt w a b c x → Calls Try.prog 23 #[tv a b c x.t] w (fun e w' => e = .returned (.bool ok) ∧ Below w.heap.size w w')) :
    Calls Try.prog 4 #[tv a b c x.t] w fun e w' => e = .returned (.bool true) ∧ Below w.heap.size w w' := by
  have HZ := Lib.hid hzx
  have HS := Lib.hid (fun w a b c h => hS w a b c h); have HI := Lib.hid (fun w a b c h => hI w a b c h)
  clear hS hI
  obtain ⟨⟨paA, qaA, hpa⟩, ⟨pbA, qbA, hpb⟩, ⟨pcA, qcA, hpc⟩⟩ := hzx.shapes
  clear hzx
  have HSZ : Hid (szMT x ≤ 1048576) := by unfold Hid szMT; have := hm; unfold wtT at this; omega
  have HMt : Hid (wtT x ≤ 1048576) := by unfold Hid; omega
  generalize hwt : wtT x = wt at *
  have HWT := Lib.hid hwt; clear hwt
  generalize hnnk : x.k.length = nk at *
  have HNnk := Lib.hid hnnk; clear hnnk
  generalize hnnl : x.l.length = nl at *
  have HNnl := Lib.hid hnnl; clear hnnl
  generalize hnnr : x.r.length = nr at *
  have HNnr := Lib.hid hnnr; clear hnnr
  subst hpa
  subst hpb
  subst hpc
  generalize hsz : szMT x = sz at *
  have HSM := Lib.hid hsz; clear hsz
  replace HMt : Hid (wtT x ≤ 1048576) := by unfold Hid; rw [HWT.out]; omega
  have hl0 : ¬ ((1048576 : Int) - (wt : Int)) < 0 := by omega
  have e1 : (ok != ok) = false := by simp
  have L := Lib.hid (below1 w (.cells (t4 (.slice paA nk qaA) (.slice pbA nl qbA) (.slice pcA nr qcA) x.t) 29))
  have Rx : Hid (Row (w.alloc (.cells (t4 (.slice paA nk qaA) (.slice pbA nl qbA) (.slice pcA nr qcA) x.t) 29)) w.heap.size 29 (t4 (.slice paA nk qaA) (.slice pbA nl qbA) (.slice pcA nr qcA) x.t)) := Row.new w _ _
  have S1 : Hid (w.heap.size + 1 ≤ (w.alloc (.cells (t4 (.slice paA nk qaA) (.slice pbA nl qbA) (.slice pcA nr qcA) x.t) 29)).heap.size) := (by unfold Hid; simp)
  go_enter Try.func4, Try.ntmps4
  have c0x := Row.cell Rx.out 0
  have c1x := Row.cell Rx.out 1
  have c2x := Row.cell Rx.out 2
  have c3x := Row.cell Rx.out 3
  have ltx := Row.lt Rx.out
  go_wp2_with fail
  clear c0x c1x c2x c3x ltx
  refine (c_szTree_yes (.slice paA nk qaA) (.slice pbA nl qbA) (.slice pcA nr qcA) x 1048576 _ (HZ.out.below L.out) (by omega) (by rw [HWT.out]; omega)).mono ?_
  rintro e ys ⟨rfl, hb⟩
  rw [HWT.out]
  replace Rx := Lib.hid (Row.below Rx.out hb)
  have S2 : Hid ((w.alloc (.cells (t4 (.slice paA nk qaA) (.slice pbA nl qbA) (.slice pcA nr qcA) x.t) 29)).heap.size ≤ ys.heap.size) := hb.size
  replace L := Lib.hid (bst L.out hb L.out.size)
  clear hb
  have c0x := Row.cell Rx.out 0
  have c1x := Row.cell Rx.out 1
  have c2x := Row.cell Rx.out 2
  have c3x := Row.cell Rx.out 3
  have ltx := Row.lt Rx.out
  go_wp2_with fail
  clear c0x c1x c2x c3x ltx
  refine (c_toTree (.slice paA nk qaA) (.slice pbA nl qbA) (.slice pcA nr qcA) x _ (HZ.out.below L.out) HMt.out).mono ?_
  rintro e y1 ⟨a1, b1, c1, rfl, ho, hb⟩
  have hsh := ho.shapes
  simp only [HNnk.out, HNnl.out, HNnr.out] at hsh
  obtain ⟨⟨pas, qas, rfl⟩, ⟨pbs, qbs, rfl⟩, ⟨pcs, qcs, rfl⟩⟩ := hsh
  have Os : Hid (OwnT y1 ys.heap.size y1.heap.size (.slice pas nk qas) (.slice pbs nl qbs) (.slice pcs nr qcs) x) := ho
  clear ho
  replace Rx := Lib.hid (Row.below Rx.out hb)
  have S3 : Hid (ys.heap.size ≤ y1.heap.size) := hb.size
  replace L := Lib.hid (bst L.out hb L.out.size)
  clear hb
  have c0x := Row.cell Rx.out 0
  have c1x := Row.cell Rx.out 1
  have c2x := Row.cell Rx.out 2
  have c3x := Row.cell Rx.out 3
  have ltx := Row.lt Rx.out
  go_wp2_with fail
  clear c0x c1x c2x c3x ltx
  refine (HS.out _ (.slice pas nk qas) (.slice pbs nl qbs) (.slice pcs nr qcs) Os.out.reads).mono ?_
  rintro e yW ⟨rfl, hb⟩
  replace Rx := Lib.hid (Row.below Rx.out hb)
  replace Os := Lib.hid (OwnT.below Os.out hb)
  have S4 : Hid (y1.heap.size ≤ yW.heap.size) := hb.size
  replace L := Lib.hid (bst L.out hb L.out.size)
  clear hb
  clear Os
  have c0x := Row.cell Rx.out 0
  have c1x := Row.cell Rx.out 1
  have c2x := Row.cell Rx.out 2
  have c3x := Row.cell Rx.out 3
  have ltx := Row.lt Rx.out
  go_wp2_with fail
  clear c0x c1x c2x c3x ltx
  refine (c_toTree (.slice paA nk qaA) (.slice pbA nl qbA) (.slice pcA nr qcA) x _ (HZ.out.below L.out) HMt.out).mono ?_
  rintro e yX ⟨a1, b1, c1, rfl, ho, hb⟩
  have hsh := ho.shapes
  simp only [HNnk.out, HNnl.out, HNnr.out] at hsh
  obtain ⟨⟨paX, qaX, rfl⟩, ⟨pbX, qbX, rfl⟩, ⟨pcX, qcX, rfl⟩⟩ := hsh
  have OX : Hid (OwnT yX yW.heap.size yX.heap.size (.slice paX nk qaX) (.slice pbX nl qbX) (.slice pcX nr qcX) x) := ho
  clear ho
  replace Rx := Lib.hid (Row.below Rx.out hb)
  have S5 : Hid (yW.heap.size ≤ yX.heap.size) := hb.size
  replace L := Lib.hid (bst L.out hb L.out.size)
  clear hb
  have c0x := Row.cell Rx.out 0
  have c1x := Row.cell Rx.out 1
  have c2x := Row.cell Rx.out 2
  have c3x := Row.cell Rx.out 3
  have ltx := Row.lt Rx.out
  go_wp2_with fail
  clear c0x c1x c2x c3x ltx
  have hb := below1 yX (.cells (t4 (.slice paX nk qaX) (.slice pbX nl qbX) (.slice pcX nr qcX) x.t) 24)
  have RN : Hid (Row (yX.alloc (.cells (t4 (.slice paX nk qaX) (.slice pbX nl qbX) (.slice pcX nr qcX) x.t) 24)) yX.heap.size 24 (t4 (.slice paX nk qaX) (.slice pbX nl qbX) (.slice pcX nr qcX) x.t)) := Row.new yX _ _
  have S6 : Hid (yX.heap.size < (yX.alloc (.cells (t4 (.slice paX nk qaX) (.slice pbX nl qbX) (.slice pcX nr qcX) x.t) 24)).heap.size) := (by unfold Hid; simp)
  replace Rx := Lib.hid (Row.below Rx.out hb)
  replace OX := Lib.hid (OwnT.below OX.out hb)
  have S7 : Hid (yX.heap.size ≤ (yX.alloc (.cells (t4 (.slice paX nk qaX) (.slice pbX nl qbX) (.slice pcX nr qcX) x.t) 24)).heap.size) := hb.size
  replace L := Lib.hid (bst L.out hb L.out.size)
  clear hb
  have RX := RN
  clear RN
  refine (HI.out _ (.slice paX nk qaX) (.slice pbX nl qbX) (.slice pcX nr qcX) OX.out.reads).mono ?_
  rintro e yG ⟨rfl, hb⟩
  replace Rx := Lib.hid (Row.below Rx.out hb)
  replace RX := Lib.hid (Row.below RX.out hb)
  replace OX := Lib.hid (OwnT.below OX.out hb)
  have S8 : Hid ((yX.alloc (.cells (t4 (.slice paX nk qaX) (.slice pbX nl qbX) (.slice pcX nr qcX) x.t) 24)).heap.size ≤ yG.heap.size) := hb.size
  replace L := Lib.hid (bst L.out hb L.out.size)
  clear hb
  have c0x := Row.cell Rx.out 0
  have c1x := Row.cell Rx.out 1
  have c2x := Row.cell Rx.out 2
  have c3x := Row.cell Rx.out 3
  have ltx := Row.lt Rx.out
  have c0X := Row.cell RX.out 0
  have c1X := Row.cell RX.out 1
  have c2X := Row.cell RX.out 2
  have c3X := Row.cell RX.out 3
  have ltX := Row.lt RX.out
  go_wp2_with fail
  clear c0x c1x c2x c3x ltx c0X c1X c2X c3X ltX
  have RR0 : yG.drew.cell? ⟨w.heap.size, 0, none⟩ = some (.slice paA nk qaA) := Row.cell Rx.out 0
  have RR1 : yG.drew.cell? ⟨w.heap.size, 1, none⟩ = some (.slice pbA nl qbA) := Row.cell Rx.out 1
  have RR2 : yG.drew.cell? ⟨w.heap.size, 2, none⟩ = some (.slice pcA nr qcA) := Row.cell Rx.out 2
  have RR3 : yG.drew.cell? ⟨w.heap.size, 3, none⟩ = some (.int .i64 x.t) := Row.cell Rx.out 3
  have RX0 : yG.drew.cell? ⟨yX.heap.size, 0, none⟩ = some (.slice paX nk qaX) := Row.cell RX.out 0
  have RX1 : yG.drew.cell? ⟨yX.heap.size, 1, none⟩ = some (.slice pbX nl qbX) := Row.cell RX.out 1
  have RX2 : yG.drew.cell? ⟨yX.heap.size, 2, none⟩ = some (.slice pcX nr qcX) := Row.cell RX.out 2
  have RX3 : yG.drew.cell? ⟨yX.heap.size, 3, none⟩ = some (.int .i64 x.t) := Row.cell RX.out 3
  have BD := below_drew (Below.refl yG.heap.size yG)
  have IZ := Lib.hid (HZ.out.below (below_drew L.out)); have IX := Lib.hid (OX.out.reads.below BD)
  go_region_held3 (fun w' => w'.cell? ⟨w.heap.size, 0, none⟩ = some (.slice paA nk qaA) ∧ w'.cell? ⟨w.heap.size, 1, none⟩ = some (.slice pbA nl qbA) ∧ w'.cell? ⟨w.heap.size, 2, none⟩ = some (.slice pcA nr qcA) ∧ w'.cell? ⟨w.heap.size, 3, none⟩ = some (.int .i64 x.t) ∧ w'.cell? ⟨yX.heap.size, 0, none⟩ = some (.slice paX nk qaX) ∧ w'.cell? ⟨yX.heap.size, 1, none⟩ = some (.slice pbX nl qbX) ∧ w'.cell? ⟨yX.heap.size, 2, none⟩ = some (.slice pcX nr qcX) ∧ w'.cell? ⟨yX.heap.size, 3, none⟩ = some (.int .i64 x.t) ∧ Below yG.heap.size yG w')
    (first
      | (with_reducible exact ⟨RR0, RR1, RR2, RR3, RX0, RX1, RX2, RX3, BD⟩)
      | (go_split_ands
         exact ⟨cellBelow hbk (Nat.le_refl _) (by assumption), cellBelow hbk (Nat.le_refl _) (by assumption), cellBelow hbk (Nat.le_refl _) (by assumption), cellBelow hbk (Nat.le_refl _) (by assumption), cellBelow hbk (Nat.le_refl _) (by assumption), cellBelow hbk (Nat.le_refl _) (by assumption), cellBelow hbk (Nat.le_refl _) (by assumption), cellBelow hbk (Nat.le_refl _) (by assumption), bst (by assumption) hbk (Below.size (by assumption))⟩)
      | (go_split_ands; refine ⟨?_, ?_, ?_, ?_, ?_, ?_, ?_, ?_, ?_⟩ <;> assumption))
    (first
      | (go_at_call 22; refine (c_toTree (.slice paA nk qaA) (.slice pbA nl qbA) (.slice pcA nr qcA) x _ IZ.out HMt.out).mono ?_; rintro e wD1 ⟨aD, bD, cD, rfl, hoD, hbk⟩; have OD := Lib.hid hoD.reads; have XD := Lib.hid (IX.out.below hbk); clear hoD)
      | (go_at_call 17; refine (c_eqTree _ _ _ _ _ _ x _ XD.out OD.out HMt.out).mono ?_; rintro e wD2 ⟨rfl, hbk⟩))
  have hb : Below yG.heap.size yG wD2 := by go_split_ands; assumption
  clear OD XD IZ IX RR0 RX0 RR1 RX1 RR2 RX2 RR3 RX3 BD
  replace Rx := Lib.hid (Row.below Rx.out hb)
  replace RX := Lib.hid (Row.below RX.out hb)
  replace OX := Lib.hid (OwnT.below OX.out hb)
  have S9 : Hid (yG.heap.size ≤ wD2.heap.size) := hb.size
  replace L := Lib.hid (bst L.out hb L.out.size)
  clear hb
  have c0x := Row.cell Rx.out 0
  have c1x := Row.cell Rx.out 1
  have c2x := Row.cell Rx.out 2
  have c3x := Row.cell Rx.out 3
  have ltx := Row.lt Rx.out
  have c0X := Row.cell RX.out 0
  have c1X := Row.cell RX.out 1
  have c2X := Row.cell RX.out 2
  have c3X := Row.cell RX.out 3
  have ltX := Row.lt RX.out
  go_wp2_with fail
  clear c0x c1x c2x c3x ltx c0X c1X c2X c3X ltX
  go_ret
  exact ⟨rfl, L.out⟩
set_option maxHeartbeats 1600000 in
set_option maxRecDepth 100000 in
theorem walk_FnExactGoodTree (a b c : Value) (x : T) (w : World) (hzx : TreeAt w a b c x) (hfx : FitT x) : Calls Try.prog 4 #[tv a b c x.t] w fun e w' => e = .returned (.bool true) ∧ Below w.heap.size w w' := by
  by_cases hm : wtT x ≤ 1048576
  · exact core_FnExactGoodTree a b c x   (goodB x) w hzx hm  (fun w a b c h => s_GoodTree a b c x w h (by omega)) (fun w a b c h => c_GoodTree a b c x w h (by omega))
  · have HB0 := Lib.hid (below1 w (.cells (t4 a b c x.t) 29))
    have HA0 := Lib.hid (hzx.below HB0.out)
    have HF := Lib.hid hfx
    have HMM : Hid ((1048576 : Int) < (wtT x : Int)) := by unfold Hid; omega
    have HC := Lib.hid (c_szTree_no a b c x 1048576 _ HA0.out HF.out (by omega) (by omega) HMM.out)
    clear hzx HA0 hfx HF HMM hm
    go_enter Try.func4, Try.ntmps4
    go_wp2_with fail
    refine HC.out.mono ?_
    rintro e w1 ⟨rfl, hb1⟩
    have HB1 := Lib.hid (bst HB0.out hb1 HB0.out.size)
    clear hb1 HC
    go_wp2
    go_ret
    exact ⟨rfl, HB1.out⟩
end Go.Proofs.Ytejaebmbhcgngaa
namespace Go.Proofs.Ytejaebmbhcgngaa.xGoodTree
open Go.ChangeShapes Go.WideShapes Go.ChangeAt Go.RowKit

set_option maxRecDepth 100000 in
theorem contract (H : Type) (enc : TypeId × Value → H) (W : World) (base : Nat) (args : Array Value) (ds gs : List (DataW H)) (before : List MemPlace)
    (hval : ∀ (j : Nat) t v, Try.f4.params[j]? = some t → args[j]? = some v → Value.okWide Try.prog W .any base t v)
    (hW : DataW.Whole enc Try.prog Try.f4.params.toList Rows.fnExactGoodTreeSpec.vars false W args.toList ds gs before) :
    Calls Try.prog 4 args W fun e W' => ∃ v, e = .returned v ∧ Rows.fnExactGoodTreeSpec.post enc Try.prog Try.f4 false true false false W args v W' := by
  have hW' := hW
  obtain ⟨p, q, hA0, hV, rfl, hfz, hnd⟩ := hW
  have hA : DataW.TrodAll enc Try.prog W 0 (fun _ => true) true Try.f4.params.toList args.toList ds p := hA0
  have hpar : ∀ t ∈ Try.f4.params.toList, Try.prog.readableRec t = true ∧ t < Try.prog.types.size := by
    rw [Try.params4]; intro t ht; simp at ht; subst ht; exact r_tree
  rw [Try.params4] at hA hval
  obtain ⟨v0, vs0, d0, ds0, p0, q0, hargs, rfl, rfl, h0, r0⟩ := trodAll_cons hA
  obtain ⟨rfl, rfl, rfl⟩ := trodAll_nil r0
  obtain rfl : args = #[v0] := by cases args; simp_all
  obtain ⟨rfl, rfl⟩ := trodVars_none hV
  obtain ⟨fa0, fb0, fc0, z0, rfl, hz0, hn0⟩ := tree_of_arg (hval 0 29 v0 rfl rfl) h0
  refine (walk_FnExactGoodTree fa0 fb0 fc0 z0 W hz0 hn0).mono fun e W' ⟨he, hb⟩ => ?_
  subst he
  exact ⟨_, rfl, law_post laidOut hpar (fun n hn => by cases hn) hW' hb rfl (by kernel_rfl) Try.underlying4⟩

set_option maxRecDepth 100000 in
theorem lifted (os : Os) (started : os.Started) (H : Type) (enc : TypeId × Value → H) :
    ReturnsInHanded {} Try.checked os 4 .any (Rows.fnExactGoodTreeSpec.pre6 enc Try.prog Try.f4 Rows.fnExactGoodTreeRow.domain false) (Rows.fnExactGoodTreeSpec.post enc Try.prog Try.f4 false true false false) := by
  refine returnsInHanded_of_change (C := Try.checked) own started (by kernel_rfl) Try.func4
    (ChangeSpec.witness6 (enc := enc) (C := Try.checked) false ⟨#[], #[.agg #[.slice none 0 0, .slice none 0 0, .slice none 0 0, .int .i64 0]], []⟩ 8 (by kernel_rfl) (by kernel_rfl) (by kernel_rfl) (by kernel_rfl)) ?_
  intro W base args ds gs before hval hW _ _
  exact contract H enc W base args ds gs before hval hW
end Go.Proofs.Ytejaebmbhcgngaa.xGoodTree
namespace Go.Proofs.Ytejaebmbhcgngaa
theorem xGoodTree_said : Rows.FnExactGoodTreeSaid :=
  OpenClaim.holds_of_wide 4 Try.f4 rfl rfl rfl rfl rfl rfl rfl ⟨rfl, rfl, rfl, rfl, rfl⟩ rfl rfl rfl rfl rfl (by kernel_rfl) Try.func4 (by kernel_rfl)
    (of_decide_eq_true (by kernel_rfl)) (by unfold Func.isWrapper; first | (rw [if_pos (by decide +kernel)]; kernel_rfl) | (rw [if_neg (by decide +kernel)]; exact ⟨rfl, rfl⟩))
    (fun os started H enc _ => xGoodTree.lifted os started H enc)
end Go.Proofs.Ytejaebmbhcgngaa
