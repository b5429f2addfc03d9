/- laws.FnExactGoodWork: for every input the law answers true, and the input reads as it did. No condition. -/
import Derived.Test.YtkbphmnacdpdgaaRA3
namespace Go.Proofs.Ytkbphmnacdpdgaa
open Go.RowKit Ph Kw

set_option maxHeartbeats 12800000 in
set_option maxRecDepth 100000 in
theorem core_FnExactGoodWork (a c : Value) (W : Wk) (ok : Bool) (w : World) (hzx : WorkAt w a c W) (hm : wtW W ≤ 1048576) 
    (hS : ∀ (w : World) (a c : Value), WorkAt w a c W → Calls Try.prog 29 #[wkv a W.n c] w (fun e w' => e = .returned (.bool ok) ∧ Below w.heap.size w w'))
    (hI : ∀ (w : World) (a c : Value), WorkC w a c W → Calls Try.prog 19 #[wkv a W.n c] w (fun e w' => e = .returned (.bool ok) ∧ Below w.heap.size w w')) :
    Calls Try.prog 6 #[wkv a W.n c] w fun e w' => e = .returned (.bool true) ∧ Below w.heap.size w w' := by
  have HZ := Lib.hid hzx
  have HS := Lib.hid (fun w a c h => hS w a c h); have HI := Lib.hid (fun w a c h => hI w a c h)
  clear hS hI
  obtain ⟨paA, qaA, hpa⟩ := hzx.r.shape
  obtain ⟨pcA, qcA, hpc⟩ := hzx.d.shape
  clear hzx
  have HSZ : Hid (szMW W ≤ 1048576 ∧ W.r.length ≤ 1048576) := by unfold Hid szMW; have := hm; unfold wtW wt at this; omega
  generalize hwt : wtW W = wt at *
  have HWT := Lib.hid hwt; clear hwt
  generalize hnnr : W.r.length = nr at *
  have HNnr := Lib.hid hnnr; clear hnnr
  generalize hnnd : W.d.length = nd at *
  have HNnd := Lib.hid hnnd; clear hnnd
  subst hpa
  subst hpc
  generalize hsz : szMW W = sz at *
  have HSM := Lib.hid hsz; clear hsz
  have HM : Hid (wtW W ≤ 1048576) := by unfold Hid; rw [HWT.out]; omega
  have hl0 : ¬ ((1048576 : Int) - (wt : Int)) < 0 := by omega
  have e1 : (ok != ok) = false := by simp
  have L := Lib.hid (below1 w (.cells (w3 (.slice paA nr qaA) W.n (.slice pcA nd qcA)) 54))
  have Rx : Hid (Row (w.alloc (.cells (w3 (.slice paA nr qaA) W.n (.slice pcA nd qcA)) 54)) w.heap.size 54 (w3 (.slice paA nr qaA) W.n (.slice pcA nd qcA))) := Row.new w _ _
  have S1 : Hid (w.heap.size + 1 ≤ (w.alloc (.cells (w3 (.slice paA nr qaA) W.n (.slice pcA nd qcA)) 54)).heap.size) := (by unfold Hid; simp)
  go_enter Try.func6, Try.ntmps6
  have c0x := Row.cell Rx.out 0
  have c1x := Row.cell Rx.out 1
  have c2x := Row.cell Rx.out 2
  have ltx := Row.lt Rx.out
  go_wp2_with fail
  clear c0x c1x c2x ltx
  refine (c_szWork_yes (.slice paA nr qaA) W.n (.slice pcA nd qcA) W 1048576 _ (HZ.out.below L.out) (by omega) (by rw [HWT.out]; omega)).mono ?_
  rintro e ys ⟨rfl, hb⟩
  rw [HWT.out]
  replace Rx := Lib.hid (Row.below Rx.out hb)
  have S2 : Hid ((w.alloc (.cells (w3 (.slice paA nr qaA) W.n (.slice pcA nd qcA)) 54)).heap.size ≤ ys.heap.size) := hb.size
  replace L := Lib.hid (bst L.out hb L.out.size)
  clear hb
  have c0x := Row.cell Rx.out 0
  have c1x := Row.cell Rx.out 1
  have c2x := Row.cell Rx.out 2
  have ltx := Row.lt Rx.out
  go_wp2_with fail
  clear c0x c1x c2x ltx
  refine (c_toWork (.slice paA nr qaA) (.slice pcA nd qcA) W _ (HZ.out.below L.out) HM.out).mono ?_
  rintro e y1 ⟨a1, c1, rfl, ho, hb⟩
  have hsh := ho.shapes
  simp only [HNnr.out, HNnd.out] at hsh
  obtain ⟨⟨pas, qas, rfl⟩, ⟨pcs, qcs, rfl⟩⟩ := hsh
  have Os : Hid (OwnW y1 ys.heap.size y1.heap.size (.slice pas nr qas) (.slice pcs nd qcs) W) := ho
  clear ho
  replace Rx := Lib.hid (Row.below Rx.out hb)
  have S3 : Hid (ys.heap.size ≤ y1.heap.size) := hb.size
  replace L := Lib.hid (bst L.out hb L.out.size)
  clear hb
  have c0x := Row.cell Rx.out 0
  have c1x := Row.cell Rx.out 1
  have c2x := Row.cell Rx.out 2
  have ltx := Row.lt Rx.out
  go_wp2_with fail
  clear c0x c1x c2x ltx
  refine (HS.out _ (.slice pas nr qas) (.slice pcs nd qcs) Os.out.reads).mono ?_
  rintro e yW ⟨rfl, hb⟩
  replace Rx := Lib.hid (Row.below Rx.out hb)
  replace Os := Lib.hid (OwnW.below Os.out hb)
  have S4 : Hid (y1.heap.size ≤ yW.heap.size) := hb.size
  replace L := Lib.hid (bst L.out hb L.out.size)
  clear hb
  clear Os
  have c0x := Row.cell Rx.out 0
  have c1x := Row.cell Rx.out 1
  have c2x := Row.cell Rx.out 2
  have ltx := Row.lt Rx.out
  go_wp2_with fail
  clear c0x c1x c2x ltx
  refine (c_toWork (.slice paA nr qaA) (.slice pcA nd qcA) W _ (HZ.out.below L.out) HM.out).mono ?_
  rintro e yX ⟨a1, c1, rfl, ho, hb⟩
  have hsh := ho.shapes
  simp only [HNnr.out, HNnd.out] at hsh
  obtain ⟨⟨paX, qaX, rfl⟩, ⟨pcX, qcX, rfl⟩⟩ := hsh
  have OX : Hid (OwnW yX yW.heap.size yX.heap.size (.slice paX nr qaX) (.slice pcX nd qcX) W) := ho
  clear ho
  replace Rx := Lib.hid (Row.below Rx.out hb)
  have S5 : Hid (yW.heap.size ≤ yX.heap.size) := hb.size
  replace L := Lib.hid (bst L.out hb L.out.size)
  clear hb
  have c0x := Row.cell Rx.out 0
  have c1x := Row.cell Rx.out 1
  have c2x := Row.cell Rx.out 2
  have ltx := Row.lt Rx.out
  go_wp2_with fail
  clear c0x c1x c2x ltx
  have hb := below1 yX (.cells (w3 (.slice paX nr qaX) W.n (.slice pcX nd qcX)) 28)
  have RN : Hid (Row (yX.alloc (.cells (w3 (.slice paX nr qaX) W.n (.slice pcX nd qcX)) 28)) yX.heap.size 28 (w3 (.slice paX nr qaX) W.n (.slice pcX nd qcX))) := Row.new yX _ _
  have S6 : Hid (yX.heap.size < (yX.alloc (.cells (w3 (.slice paX nr qaX) W.n (.slice pcX nd qcX)) 28)).heap.size) := (by unfold Hid; simp)
  replace Rx := Lib.hid (Row.below Rx.out hb)
  replace OX := Lib.hid (OwnW.below OX.out hb)
  have S7 : Hid (yX.heap.size ≤ (yX.alloc (.cells (w3 (.slice paX nr qaX) W.n (.slice pcX nd qcX)) 28)).heap.size) := hb.size
  replace L := Lib.hid (bst L.out hb L.out.size)
  clear hb
  have RX := RN
  clear RN
  refine (HI.out _ (.slice paX nr qaX) (.slice pcX nd qcX) OX.out.readsC).mono ?_
  rintro e yG ⟨rfl, hb⟩
  replace Rx := Lib.hid (Row.below Rx.out hb)
  replace RX := Lib.hid (Row.below RX.out hb)
  replace OX := Lib.hid (OwnW.below OX.out hb)
  have S8 : Hid ((yX.alloc (.cells (w3 (.slice paX nr qaX) W.n (.slice pcX nd qcX)) 28)).heap.size ≤ yG.heap.size) := hb.size
  replace L := Lib.hid (bst L.out hb L.out.size)
  clear hb
  have c0x := Row.cell Rx.out 0
  have c1x := Row.cell Rx.out 1
  have c2x := Row.cell Rx.out 2
  have ltx := Row.lt Rx.out
  have c0X := Row.cell RX.out 0
  have c1X := Row.cell RX.out 1
  have c2X := Row.cell RX.out 2
  have ltX := Row.lt RX.out
  go_wp2_with fail
  clear c0x c1x c2x ltx c0X c1X c2X ltX
  have RR0 : yG.drew.cell? ⟨w.heap.size, 0, none⟩ = some (.slice paA nr qaA) := Row.cell Rx.out 0
  have RR1 : yG.drew.cell? ⟨w.heap.size, 1, none⟩ = some (.int .i64 W.n) := Row.cell Rx.out 1
  have RR2 : yG.drew.cell? ⟨w.heap.size, 2, none⟩ = some (.slice pcA nd qcA) := Row.cell Rx.out 2
  have RX0 : yG.drew.cell? ⟨yX.heap.size, 0, none⟩ = some (.slice paX nr qaX) := Row.cell RX.out 0
  have RX1 : yG.drew.cell? ⟨yX.heap.size, 1, none⟩ = some (.int .i64 W.n) := Row.cell RX.out 1
  have RX2 : yG.drew.cell? ⟨yX.heap.size, 2, none⟩ = some (.slice pcX nd qcX) := Row.cell RX.out 2
  have BD := below_drew (Below.refl yG.heap.size yG)
  have IZ := Lib.hid (HZ.out.below (below_drew L.out)); have IX := Lib.hid (OX.out.reads.below BD)
  go_region_held3 (fun w' => w'.cell? ⟨w.heap.size, 0, none⟩ = some (.slice paA nr qaA) ∧ w'.cell? ⟨w.heap.size, 1, none⟩ = some (.int .i64 W.n) ∧ w'.cell? ⟨w.heap.size, 2, none⟩ = some (.slice pcA nd qcA) ∧ w'.cell? ⟨yX.heap.size, 0, none⟩ = some (.slice paX nr qaX) ∧ w'.cell? ⟨yX.heap.size, 1, none⟩ = some (.int .i64 W.n) ∧ w'.cell? ⟨yX.heap.size, 2, none⟩ = some (.slice pcX nd qcX) ∧ Below yG.heap.size yG w')
    (first
      | (with_reducible exact ⟨RR0, RR1, RR2, RX0, RX1, RX2, BD⟩)
      | (go_split_ands
         exact ⟨cellBelow hbk (Nat.le_refl _) (by assumption), cellBelow hbk (Nat.le_refl _) (by assumption), cellBelow hbk (Nat.le_refl _) (by assumption), cellBelow hbk (Nat.le_refl _) (by assumption), cellBelow hbk (Nat.le_refl _) (by assumption), cellBelow hbk (Nat.le_refl _) (by assumption), bst (by assumption) hbk (Below.size (by assumption))⟩)
      | (go_split_ands; refine ⟨?_, ?_, ?_, ?_, ?_, ?_, ?_⟩ <;> assumption))
    (first
      | (go_at_call 40; refine (c_toWork (.slice paA nr qaA) (.slice pcA nd qcA) W _ IZ.out HM.out).mono ?_; rintro e wD1 ⟨aD, cD, rfl, hoD, hbk⟩; have OD := Lib.hid hoD.reads; have XD := Lib.hid (IX.out.below hbk); clear hoD)
      | (go_at_call 36; refine (c_eqWork _ _ _ _ W _ XD.out OD.out HM.out).mono ?_; rintro e wD2 ⟨rfl, hbk⟩))
  have hb : Below yG.heap.size yG wD2 := by go_split_ands; assumption
  clear OD XD IZ IX RR0 RX0 RR1 RX1 RR2 RX2 BD
  replace Rx := Lib.hid (Row.below Rx.out hb)
  replace RX := Lib.hid (Row.below RX.out hb)
  replace OX := Lib.hid (OwnW.below OX.out hb)
  have S9 : Hid (yG.heap.size ≤ wD2.heap.size) := hb.size
  replace L := Lib.hid (bst L.out hb L.out.size)
  clear hb
  have c0x := Row.cell Rx.out 0
  have c1x := Row.cell Rx.out 1
  have c2x := Row.cell Rx.out 2
  have ltx := Row.lt Rx.out
  have c0X := Row.cell RX.out 0
  have c1X := Row.cell RX.out 1
  have c2X := Row.cell RX.out 2
  have ltX := Row.lt RX.out
  go_wp2_with fail
  clear c0x c1x c2x ltx c0X c1X c2X ltX
  go_ret
  exact ⟨rfl, L.out⟩
set_option maxHeartbeats 1600000 in
set_option maxRecDepth 100000 in
theorem walk_FnExactGoodWork (a c : Value) (W : Wk) (w : World) (hzx : WorkAt w a c W) (hfx : FitW W) : Calls Try.prog 6 #[wkv a W.n c] w fun e w' => e = .returned (.bool true) ∧ Below w.heap.size w w' := by
  by_cases hm : wtW W ≤ 1048576
  · have hd : W.d.length ≤ 1048576 := by unfold wtW at hm; omega
    exact core_FnExactGoodWork a c W   (goodB W) w hzx hm  (fun w a c h => s_GoodWork a c W w h (by omega)) (fun w a c h => c_GoodWork a c W w h (by omega))
  · have HB0 := Lib.hid (below1 w (.cells (w3 a W.n c) 54))
    have HA0 := Lib.hid (hzx.below HB0.out)
    have HF := Lib.hid hfx
    have HMM : Hid ((1048576 : Int) < (wtW W : Int)) := by unfold Hid; omega
    have HC := Lib.hid (c_szWork_no a W.n c W 1048576 _ HA0.out HF.out (by omega) (by omega) HMM.out)
    clear hzx HA0 hfx HF HMM hm
    go_enter Try.func6, Try.ntmps6
    go_wp2_with fail
    refine HC.out.mono ?_
    rintro e w1 ⟨rfl, hb1⟩
    have HB1 := Lib.hid (bst HB0.out hb1 HB0.out.size)
    clear hb1 HC
    go_wp2
    go_ret
    exact ⟨rfl, HB1.out⟩
end Go.Proofs.Ytkbphmnacdpdgaa
namespace Go.Proofs.Ytkbphmnacdpdgaa.xGoodWork
open Go.ChangeShapes Go.WideShapes Go.ChangeAt Go.RowKit

set_option maxRecDepth 100000 in
theorem contract (H : Type) (enc : TypeId × Value → H) (W : World) (base : Nat) (args : Array Value) (ds gs : List (DataW H)) (before : List MemPlace)
    (hval : ∀ (j : Nat) t v, Try.f6.params[j]? = some t → args[j]? = some v → Value.okWide Try.prog W .any base t v)
    (hW : DataW.Whole enc Try.prog Try.f6.params.toList Rows.fnExactGoodWorkSpec.vars false W args.toList ds gs before) :
    Calls Try.prog 6 args W fun e W' => ∃ v, e = .returned v ∧ Rows.fnExactGoodWorkSpec.post enc Try.prog Try.f6 false true false false W args v W' := by
  have hW' := hW
  obtain ⟨p, q, hA0, hV, rfl, hfz, hnd⟩ := hW
  have hA : DataW.TrodAll enc Try.prog W 0 (fun _ => true) true Try.f6.params.toList args.toList ds p := hA0
  have hpar : ∀ t ∈ Try.f6.params.toList, Try.prog.readableRec t = true ∧ t < Try.prog.types.size := by
    rw [Try.params6]; intro t ht; simp at ht; subst ht; exact r_work
  rw [Try.params6] at hA hval
  obtain ⟨v0, vs0, d0, ds0, p0, q0, hargs, rfl, rfl, h0, r0⟩ := trodAll_cons hA
  obtain ⟨rfl, rfl, rfl⟩ := trodAll_nil r0
  obtain rfl : args = #[v0] := by cases args; simp_all
  obtain ⟨rfl, rfl⟩ := trodVars_none hV
  obtain ⟨fa0, fc0, z0, rfl, hz0, hn0⟩ := work_of_arg (hval 0 54 v0 rfl rfl) h0
  refine (walk_FnExactGoodWork fa0 fc0 z0 W hz0 hn0).mono fun e W' ⟨he, hb⟩ => ?_
  subst he
  exact ⟨_, rfl, law_post laidOut hpar (fun n hn => by cases hn) hW' hb rfl (by kernel_rfl) Try.underlying4⟩

set_option maxRecDepth 100000 in
theorem lifted (os : Os) (started : os.Started) (H : Type) (enc : TypeId × Value → H) :
    ReturnsInHanded {} Try.checked os 6 .any (Rows.fnExactGoodWorkSpec.pre6 enc Try.prog Try.f6 Rows.fnExactGoodWorkRow.domain false) (Rows.fnExactGoodWorkSpec.post enc Try.prog Try.f6 false true false false) := by
  refine returnsInHanded_of_change (C := Try.checked) own started (by kernel_rfl) Try.func6
    (ChangeSpec.witness6 (enc := enc) (C := Try.checked) false ⟨#[], #[.agg #[.slice none 0 0, .int .i64 0, .slice none 0 0]], []⟩ 8 (by kernel_rfl) (by kernel_rfl) (by kernel_rfl) (by kernel_rfl)) ?_
  intro W base args ds gs before hval hW _ _
  exact contract H enc W base args ds gs before hval hW
end Go.Proofs.Ytkbphmnacdpdgaa.xGoodWork
namespace Go.Proofs.Ytkbphmnacdpdgaa
theorem xGoodWork_said : Rows.FnExactGoodWorkSaid :=
  OpenClaim.holds_of_wide 6 Try.f6 rfl rfl rfl rfl rfl rfl rfl ⟨rfl, rfl, rfl, rfl, rfl⟩ rfl rfl rfl rfl rfl (by kernel_rfl) Try.func6 (by kernel_rfl)
    (of_decide_eq_true (by kernel_rfl)) (by unfold Func.isWrapper; first | (rw [if_pos (by decide +kernel)]; kernel_rfl) | (rw [if_neg (by decide +kernel)]; exact ⟨rfl, rfl⟩))
    (fun os started H enc _ => xGoodWork.lifted os started H enc)
end Go.Proofs.Ytkbphmnacdpdgaa
