/- laws.FnExactEmptyTree: for every input the law answers true, and the input reads as it did. No condition. -/
import Derived.Test.YtejaebmbhcgngaaHB3
namespace Go.Proofs.Ytejaebmbhcgngaa
open Go.RowKit Ph Tr

set_option maxHeartbeats 12800000 in
set_option maxRecDepth 100000 in
theorem core_FnExactEmptyTree (G : T) (w : World) (hrs : wtT G ≤ 2000) 
    (hS : ∀ (w : World), Calls Try.prog 15 #[] w (EndT G w))
    (hI : ∀ (w : World), Calls Try.prog 16 #[] w (EndT G w)) :
    Calls Try.prog 3 #[] w fun e w' => e = .returned (.bool true) ∧ Below w.heap.size w w' := by
  have HS := Lib.hid (fun w => hS w); have HI := Lib.hid (fun w => hI w)
  clear hS hI
  have HRZ : Hid (szMT G ≤ 2000 ∧ wtT G ≤ 1048576) := by
    have h1 : szMT G ≤ 2000 := hrs
    exact ⟨h1, by omega⟩
  clear hrs
  generalize hngk : G.k.length = gk at *
  have HNgk := Lib.hid hngk; clear hngk
  generalize hngl : G.l.length = gl at *
  have HNgl := Lib.hid hngl; clear hngl
  generalize hngr : G.r.length = gr at *
  have HNgr := Lib.hid hngr; clear hngr
  generalize hszg : szMT G = szg at *
  have HSMg := Lib.hid hszg; clear hszg
  have L := Lib.hid (Below.refl w.heap.size w)
  go_enter Try.func3, Try.ntmps3
  go_wp2_with fail
  refine (HS.out _).mono ?_
  rintro e yW ⟨a1, b1, c1, rfl, ho, hb⟩
  have hsh := ho.shapes
  simp only [HNgk.out, HNgl.out, HNgr.out] at hsh
  obtain ⟨⟨paW, qaW, rfl⟩, ⟨pbW, qbW, rfl⟩, ⟨pcW, qcW, rfl⟩⟩ := hsh
  have OW : Hid (OwnT yW w.heap.size yW.heap.size (.slice paW gk qaW) (.slice pbW gl qbW) (.slice pcW gr qcW) G) := ho
  clear ho
  have S1 : Hid (w.heap.size ≤ yW.heap.size) := hb.size
  replace L := Lib.hid (bst L.out hb L.out.size)
  clear hb
  go_wp2_with fail
  have hb := below1 yW (.cells (t4 (.slice paW gk qaW) (.slice pbW gl qbW) (.slice pcW gr qcW) G.t) 24)
  have RN : Hid (Row (yW.alloc (.cells (t4 (.slice paW gk qaW) (.slice pbW gl qbW) (.slice pcW gr qcW) G.t) 24)) yW.heap.size 24 (t4 (.slice paW gk qaW) (.slice pbW gl qbW) (.slice pcW gr qcW) G.t)) := Row.new yW _ _
  have S2 : Hid (yW.heap.size < (yW.alloc (.cells (t4 (.slice paW gk qaW) (.slice pbW gl qbW) (.slice pcW gr qcW) G.t) 24)).heap.size) := (by unfold Hid; simp)
  replace OW := Lib.hid (OwnT.below OW.out hb)
  have S3 : Hid (yW.heap.size ≤ (yW.alloc (.cells (t4 (.slice paW gk qaW) (.slice pbW gl qbW) (.slice pcW gr qcW) G.t) 24)).heap.size) := hb.size
  replace L := Lib.hid (bst L.out hb L.out.size)
  clear hb
  have RW := RN
  clear RN
  refine (HI.out _).mono ?_
  rintro e yG ⟨a1, b1, c1, rfl, ho, hb⟩
  have hsh := ho.shapes
  simp only [HNgk.out, HNgl.out, HNgr.out] at hsh
  obtain ⟨⟨paG, qaG, rfl⟩, ⟨pbG, qbG, rfl⟩, ⟨pcG, qcG, rfl⟩⟩ := hsh
  have OG : Hid (OwnT yG (yW.alloc (.cells (t4 (.slice paW gk qaW) (.slice pbW gl qbW) (.slice pcW gr qcW) G.t) 24)).heap.size yG.heap.size (.slice paG gk qaG) (.slice pbG gl qbG) (.slice pcG gr qcG) G) := ho
  clear ho
  replace RW := Lib.hid (Row.below RW.out hb)
  replace OW := Lib.hid (OwnT.below OW.out hb)
  have S4 : Hid ((yW.alloc (.cells (t4 (.slice paW gk qaW) (.slice pbW gl qbW) (.slice pcW gr qcW) G.t) 24)).heap.size ≤ yG.heap.size) := hb.size
  replace L := Lib.hid (bst L.out hb L.out.size)
  clear hb
  have c0W := Row.cell RW.out 0
  have c1W := Row.cell RW.out 1
  have c2W := Row.cell RW.out 2
  have c3W := Row.cell RW.out 3
  have ltW := Row.lt RW.out
  go_wp2_with fail
  clear c0W c1W c2W c3W ltW
  have hb := below1 yG (.cells (t4 (.slice paG gk qaG) (.slice pbG gl qbG) (.slice pcG gr qcG) G.t) 24)
  have RN : Hid (Row (yG.alloc (.cells (t4 (.slice paG gk qaG) (.slice pbG gl qbG) (.slice pcG gr qcG) G.t) 24)) yG.heap.size 24 (t4 (.slice paG gk qaG) (.slice pbG gl qbG) (.slice pcG gr qcG) G.t)) := Row.new yG _ _
  have S5 : Hid (yG.heap.size < (yG.alloc (.cells (t4 (.slice paG gk qaG) (.slice pbG gl qbG) (.slice pcG gr qcG) G.t) 24)).heap.size) := (by unfold Hid; simp)
  replace RW := Lib.hid (Row.below RW.out hb)
  replace OW := Lib.hid (OwnT.below OW.out hb)
  replace OG := Lib.hid (OwnT.below OG.out hb)
  have S6 : Hid (yG.heap.size ≤ (yG.alloc (.cells (t4 (.slice paG gk qaG) (.slice pbG gl qbG) (.slice pcG gr qcG) G.t) 24)).heap.size) := hb.size
  replace L := Lib.hid (bst L.out hb L.out.size)
  clear hb
  have RG := RN
  clear RN
  refine (c_eqTree (.slice paG gk qaG) (.slice pbG gl qbG) (.slice pcG gr qcG) (.slice paW gk qaW) (.slice pbW gl qbW) (.slice pcW gr qcW) G _ OG.out.reads OW.out.reads HRZ.out.2).mono ?_
  rintro e ye ⟨rfl, hb⟩
  replace RW := Lib.hid (Row.below RW.out hb)
  replace RG := Lib.hid (Row.below RG.out hb)
  replace OW := Lib.hid (OwnT.below OW.out hb)
  replace OG := Lib.hid (OwnT.below OG.out hb)
  have S7 : Hid ((yG.alloc (.cells (t4 (.slice paG gk qaG) (.slice pbG gl qbG) (.slice pcG gr qcG) G.t) 24)).heap.size ≤ ye.heap.size) := hb.size
  replace L := Lib.hid (bst L.out hb L.out.size)
  clear hb
  have c0W := Row.cell RW.out 0
  have c1W := Row.cell RW.out 1
  have c2W := Row.cell RW.out 2
  have c3W := Row.cell RW.out 3
  have ltW := Row.lt RW.out
  have c0G := Row.cell RG.out 0
  have c1G := Row.cell RG.out 1
  have c2G := Row.cell RG.out 2
  have c3G := Row.cell RG.out 3
  have ltG := Row.lt RG.out
  go_wp2_with fail
  clear c0W c1W c2W c3W ltW c0G c1G c2G c3G ltG
  refine (c_markTree (yW.alloc (.cells (t4 (.slice paW gk qaW) (.slice pbW gl qbW) (.slice pcW gr qcW) G.t) 24)).heap.size yG.heap.size (.slice paG gk qaG) (.slice pbG gl qbG) (.slice pcG gr qcG) G 1 _ OG.out (by omega) (by rw [HSMg.out]; have h9 := HRZ.out; omega) (by have := S1.out; have := S2.out; have := S3.out; have := S4.out; have := S5.out; have := S6.out; have := S7.out; omega)).mono ?_
  rintro e wm3 ⟨rfl, ho, hch⟩
  rw [HSMg.out]
  have QW : Hid (yW.heap.size < ye.heap.size) := Row.lt RW.out
  have QG : Hid (yG.heap.size < ye.heap.size) := Row.lt RG.out
  replace RW := Lib.hid (Row.chg RW.out hch (by have := S1.out; have := S2.out; have := S3.out; have := S4.out; have := S5.out; have := S6.out; have := S7.out; have := QW.out; omega))
  replace RG := Lib.hid (Row.chg RG.out hch (by have := S1.out; have := S2.out; have := S3.out; have := S4.out; have := S5.out; have := S6.out; have := S7.out; have := QG.out; omega))
  replace OW := Lib.hid (OwnT.chg OW.out hch (by have := S1.out; have := S2.out; have := S3.out; have := S4.out; have := S5.out; have := S6.out; have := S7.out; omega))
  replace L := Lib.hid (below_chg L.out hch (by have := S1.out; have := S2.out; have := S3.out; have := S4.out; have := S5.out; have := S6.out; have := S7.out; omega) L.out.size)
  have S8 : Hid (ye.heap.size ≤ wm3.heap.size) := hch.size
  clear hch QW QG
  replace OG := Lib.hid ho
  clear ho
  have c0W := Row.cell RW.out 0
  have c1W := Row.cell RW.out 1
  have c2W := Row.cell RW.out 2
  have c3W := Row.cell RW.out 3
  have ltW := Row.lt RW.out
  have c0G := Row.cell RG.out 0
  have c1G := Row.cell RG.out 1
  have c2G := Row.cell RG.out 2
  have c3G := Row.cell RG.out 3
  have ltG := Row.lt RG.out
  go_wp2_with fail
  clear c0W c1W c2W c3W ltW c0G c1G c2G c3G ltG
  refine (c_heldTree (.slice paG gk qaG) (.slice pbG gl qbG) (.slice pcG gr qcG) G 1 _ OG.out.reads (by omega) (by rw [HSMg.out]; have h9 := HRZ.out; omega)).mono ?_
  rintro e yh ⟨rfl, hb⟩
  rw [HSMg.out]
  replace RW := Lib.hid (Row.below RW.out hb)
  replace RG := Lib.hid (Row.below RG.out hb)
  replace OW := Lib.hid (OwnT.below OW.out hb)
  replace OG := Lib.hid (OwnT.below OG.out hb)
  have S9 : Hid (wm3.heap.size ≤ yh.heap.size) := hb.size
  replace L := Lib.hid (bst L.out hb L.out.size)
  clear hb
  have c0W := Row.cell RW.out 0
  have c1W := Row.cell RW.out 1
  have c2W := Row.cell RW.out 2
  have c3W := Row.cell RW.out 3
  have ltW := Row.lt RW.out
  have c0G := Row.cell RG.out 0
  have c1G := Row.cell RG.out 1
  have c2G := Row.cell RG.out 2
  have c3G := Row.cell RG.out 3
  have ltG := Row.lt RG.out
  go_wp2_with fail
  clear c0W c1W c2W c3W ltW c0G c1G c2G c3G ltG
  refine (HI.out _).mono ?_
  rintro e yH ⟨a1, b1, c1, rfl, ho, hb⟩
  have hsh := ho.shapes
  simp only [HNgk.out, HNgl.out, HNgr.out] at hsh
  obtain ⟨⟨paH, qaH, rfl⟩, ⟨pbH, qbH, rfl⟩, ⟨pcH, qcH, rfl⟩⟩ := hsh
  have OH : Hid (OwnT yH yh.heap.size yH.heap.size (.slice paH gk qaH) (.slice pbH gl qbH) (.slice pcH gr qcH) G) := ho
  clear ho
  replace RW := Lib.hid (Row.below RW.out hb)
  replace RG := Lib.hid (Row.below RG.out hb)
  replace OW := Lib.hid (OwnT.below OW.out hb)
  replace OG := Lib.hid (OwnT.below OG.out hb)
  have S10 : Hid (yh.heap.size ≤ yH.heap.size) := hb.size
  replace L := Lib.hid (bst L.out hb L.out.size)
  clear hb
  have c0W := Row.cell RW.out 0
  have c1W := Row.cell RW.out 1
  have c2W := Row.cell RW.out 2
  have c3W := Row.cell RW.out 3
  have ltW := Row.lt RW.out
  have c0G := Row.cell RG.out 0
  have c1G := Row.cell RG.out 1
  have c2G := Row.cell RG.out 2
  have c3G := Row.cell RG.out 3
  have ltG := Row.lt RG.out
  go_wp2_with fail
  clear c0W c1W c2W c3W ltW c0G c1G c2G c3G ltG
  have hb := below1 yH (.cells (t4 (.slice paH gk qaH) (.slice pbH gl qbH) (.slice pcH gr qcH) G.t) 24)
  have RN : Hid (Row (yH.alloc (.cells (t4 (.slice paH gk qaH) (.slice pbH gl qbH) (.slice pcH gr qcH) G.t) 24)) yH.heap.size 24 (t4 (.slice paH gk qaH) (.slice pbH gl qbH) (.slice pcH gr qcH) G.t)) := Row.new yH _ _
  have S11 : Hid (yH.heap.size < (yH.alloc (.cells (t4 (.slice paH gk qaH) (.slice pbH gl qbH) (.slice pcH gr qcH) G.t) 24)).heap.size) := (by unfold Hid; simp)
  replace RW := Lib.hid (Row.below RW.out hb)
  replace RG := Lib.hid (Row.below RG.out hb)
  replace OW := Lib.hid (OwnT.below OW.out hb)
  replace OG := Lib.hid (OwnT.below OG.out hb)
  replace OH := Lib.hid (OwnT.below OH.out hb)
  have S12 : Hid (yH.heap.size ≤ (yH.alloc (.cells (t4 (.slice paH gk qaH) (.slice pbH gl qbH) (.slice pcH gr qcH) G.t) 24)).heap.size) := hb.size
  replace L := Lib.hid (bst L.out hb L.out.size)
  clear hb
  have RH := RN
  clear RN
  refine (c_eqTree (.slice paH gk qaH) (.slice pbH gl qbH) (.slice pcH gr qcH) (.slice paW gk qaW) (.slice pbW gl qbW) (.slice pcW gr qcW) G _ OH.out.reads OW.out.reads HRZ.out.2).mono ?_
  rintro e yg ⟨rfl, hb⟩
  replace RW := Lib.hid (Row.below RW.out hb)
  replace RG := Lib.hid (Row.below RG.out hb)
  replace RH := Lib.hid (Row.below RH.out hb)
  replace OW := Lib.hid (OwnT.below OW.out hb)
  replace OG := Lib.hid (OwnT.below OG.out hb)
  replace OH := Lib.hid (OwnT.below OH.out hb)
  have S13 : Hid ((yH.alloc (.cells (t4 (.slice paH gk qaH) (.slice pbH gl qbH) (.slice pcH gr qcH) G.t) 24)).heap.size ≤ yg.heap.size) := hb.size
  replace L := Lib.hid (bst L.out hb L.out.size)
  clear hb
  have c0W := Row.cell RW.out 0
  have c1W := Row.cell RW.out 1
  have c2W := Row.cell RW.out 2
  have c3W := Row.cell RW.out 3
  have ltW := Row.lt RW.out
  have c0G := Row.cell RG.out 0
  have c1G := Row.cell RG.out 1
  have c2G := Row.cell RG.out 2
  have c3G := Row.cell RG.out 3
  have ltG := Row.lt RG.out
  have c0H := Row.cell RH.out 0
  have c1H := Row.cell RH.out 1
  have c2H := Row.cell RH.out 2
  have c3H := Row.cell RH.out 3
  have ltH := Row.lt RH.out
  go_wp2_with fail
  clear c0W c1W c2W c3W ltW c0G c1G c2G c3G ltG c0H c1H c2H c3H ltH
  refine (c_heldTree (.slice paG gk qaG) (.slice pbG gl qbG) (.slice pcG gr qcG) G 1 _ OG.out.reads (by omega) (by rw [HSMg.out]; have h9 := HRZ.out; omega)).mono ?_
  rintro e yi ⟨rfl, hb⟩
  rw [HSMg.out]
  replace RW := Lib.hid (Row.below RW.out hb)
  replace RG := Lib.hid (Row.below RG.out hb)
  replace RH := Lib.hid (Row.below RH.out hb)
  replace OW := Lib.hid (OwnT.below OW.out hb)
  replace OG := Lib.hid (OwnT.below OG.out hb)
  replace OH := Lib.hid (OwnT.below OH.out hb)
  have S14 : Hid (yg.heap.size ≤ yi.heap.size) := hb.size
  replace L := Lib.hid (bst L.out hb L.out.size)
  clear hb
  have c0W := Row.cell RW.out 0
  have c1W := Row.cell RW.out 1
  have c2W := Row.cell RW.out 2
  have c3W := Row.cell RW.out 3
  have ltW := Row.lt RW.out
  have c0G := Row.cell RG.out 0
  have c1G := Row.cell RG.out 1
  have c2G := Row.cell RG.out 2
  have c3G := Row.cell RG.out 3
  have ltG := Row.lt RG.out
  have c0H := Row.cell RH.out 0
  have c1H := Row.cell RH.out 1
  have c2H := Row.cell RH.out 2
  have c3H := Row.cell RH.out 3
  have ltH := Row.lt RH.out
  go_wp2_with fail
  clear c0W c1W c2W c3W ltW c0G c1G c2G c3G ltG c0H c1H c2H c3H ltH
  go_ret
  exact ⟨rfl, L.out⟩
theorem walk_FnExactEmptyTree (w : World) : Calls Try.prog 3 #[] w fun e w' => e = .returned (.bool true) ∧ Below w.heap.size w w' :=
  core_FnExactEmptyTree emptyT  w ((by decide : wtT emptyT ≤ 2000)) (fun w => s_EmptyTree w) (fun w => c_EmptyTree w)
end Go.Proofs.Ytejaebmbhcgngaa
namespace Go.Proofs.Ytejaebmbhcgngaa.xEmptyTree
open Go.ChangeShapes Go.WideShapes Go.ChangeAt Go.RowKit

set_option maxRecDepth 100000 in
theorem contract (H : Type) (enc : TypeId × Value → H) (W : World) (base : Nat) (args : Array Value) (ds gs : List (DataW H)) (before : List MemPlace)
    (hval : ∀ (j : Nat) t v, Try.f3.params[j]? = some t → args[j]? = some v → Value.okWide Try.prog W .any base t v)
    (hW : DataW.Whole enc Try.prog Try.f3.params.toList Rows.fnExactEmptyTreeSpec.vars false W args.toList ds gs before) :
    Calls Try.prog 3 args W fun e W' => ∃ v, e = .returned v ∧ Rows.fnExactEmptyTreeSpec.post enc Try.prog Try.f3 false true false false W args v W' := by
  have hW' := hW
  obtain ⟨p, q, hA0, hV, rfl, hfz, hnd⟩ := hW
  have hA : DataW.TrodAll enc Try.prog W 0 (fun _ => true) true Try.f3.params.toList args.toList ds p := hA0
  have hpar : ∀ t ∈ Try.f3.params.toList, Try.prog.readableRec t = true ∧ t < Try.prog.types.size := by
    rw [Try.params3]; intro t ht; simp at ht
  rw [Try.params3] at hA
  obtain ⟨hargs, rfl, rfl⟩ := trodAll_nil hA
  obtain rfl : args = #[] := by cases args; simp_all
  obtain ⟨rfl, rfl⟩ := trodVars_none hV
  refine (walk_FnExactEmptyTree W).mono fun e W' ⟨he, hb⟩ => ?_
  subst he
  exact ⟨_, rfl, law_post laidOut hpar (fun n hn => by cases hn) hW' hb rfl (by kernel_rfl) Try.underlying4⟩

set_option maxRecDepth 100000 in
theorem lifted (os : Os) (started : os.Started) (H : Type) (enc : TypeId × Value → H) :
    ReturnsInHanded {} Try.checked os 3 .any (Rows.fnExactEmptyTreeSpec.pre6 enc Try.prog Try.f3 Rows.fnExactEmptyTreeRow.domain false) (Rows.fnExactEmptyTreeSpec.post enc Try.prog Try.f3 false true false false) := by
  refine returnsInHanded_of_change (C := Try.checked) own started (by kernel_rfl) Try.func3
    (ChangeSpec.witness6 (enc := enc) (C := Try.checked) false ⟨#[], #[], []⟩ 8 (by kernel_rfl) (by kernel_rfl) (by kernel_rfl) (by kernel_rfl)) ?_
  intro W base args ds gs before hval hW _ _
  exact contract H enc W base args ds gs before hval hW
end Go.Proofs.Ytejaebmbhcgngaa.xEmptyTree
namespace Go.Proofs.Ytejaebmbhcgngaa
theorem xEmptyTree_said : Rows.FnExactEmptyTreeSaid :=
  OpenClaim.holds_of_wide 3 Try.f3 rfl rfl rfl rfl rfl rfl rfl ⟨rfl, rfl, rfl, rfl, rfl⟩ rfl rfl rfl rfl rfl (by kernel_rfl) Try.func3 (by kernel_rfl)
    (of_decide_eq_true (by kernel_rfl)) (by unfold Func.isWrapper; first | (rw [if_pos (by decide +kernel)]; kernel_rfl) | (rw [if_neg (by decide +kernel)]; exact ⟨rfl, rfl⟩))
    (fun os started H enc _ => xEmptyTree.lifted os started H enc)
end Go.Proofs.Ytejaebmbhcgngaa
