/- laws.FnExactNewWork: for every input the law answers true, and the input reads as it did. No condition. -/
import Derived.Test.YtkbphmnacdpdgaaRA3
namespace Go.Proofs.Ytkbphmnacdpdgaa
open Go.RowKit Ph Kw

set_option maxHeartbeats 12800000 in
set_option maxRecDepth 100000 in
theorem core_FnExactNewWork (n : Int) (G : Wk) (ok : Bool) (w : World) (hrs : wtW G ≤ 2000) 
    (hS : ∀ (w : World), Calls Try.prog 35 #[.int .i64 n] w (EndW G ok w))
    (hI : ∀ (w : World), Calls Try.prog 34 #[.int .i64 n] w (EndW G ok w)) :
    Calls Try.prog 5 #[.int .i64 n] w fun e w' => e = .returned (.bool true) ∧ Below w.heap.size w w' := by
  have HS := Lib.hid (fun w => hS w); have HI := Lib.hid (fun w => hI w)
  clear hS hI
  have HRZ : Hid (szMW G ≤ 2000 ∧ G.r.length ≤ 2000 ∧ wtW G ≤ 1048576) := by
    have h1 : szMW G ≤ 2000 ∧ G.r.length ≤ 2000 := by unfold szMW; have := hrs; unfold wtW wt at this; omega
    exact ⟨h1.1, h1.2, by omega⟩
  clear hrs
  generalize hngr : G.r.length = gr at *
  have HNgr := Lib.hid hngr; clear hngr
  generalize hngd : G.d.length = gd at *
  have HNgd := Lib.hid hngd; clear hngd
  generalize hszg : szMW G = szg at *
  have HSMg := Lib.hid hszg; clear hszg
  have e1 : (ok != ok) = false := by simp
  have L := Lib.hid (Below.refl w.heap.size w)
  go_enter Try.func5, Try.ntmps5
  go_wp2_with fail
  refine (HS.out _).mono ?_
  rintro e yW ⟨a1, c1, rfl, ho, hb⟩
  have hsh := ho.shapes
  simp only [HNgr.out, HNgd.out] at hsh
  obtain ⟨⟨paW, qaW, rfl⟩, ⟨pcW, qcW, rfl⟩⟩ := hsh
  have OW : Hid (OwnW yW w.heap.size yW.heap.size (.slice paW gr qaW) (.slice pcW gd qcW) G) := ho
  clear ho
  have S1 : Hid (w.heap.size ≤ yW.heap.size) := hb.size
  replace L := Lib.hid (bst L.out hb L.out.size)
  clear hb
  go_wp2_with fail
  have hb := below1 yW (.cells (w3 (.slice paW gr qaW) G.n (.slice pcW gd qcW)) 28)
  have RN : Hid (Row (yW.alloc (.cells (w3 (.slice paW gr qaW) G.n (.slice pcW gd qcW)) 28)) yW.heap.size 28 (w3 (.slice paW gr qaW) G.n (.slice pcW gd qcW))) := Row.new yW _ _
  have S2 : Hid (yW.heap.size < (yW.alloc (.cells (w3 (.slice paW gr qaW) G.n (.slice pcW gd qcW)) 28)).heap.size) := (by unfold Hid; simp)
  replace OW := Lib.hid (OwnW.below OW.out hb)
  have S3 : Hid (yW.heap.size ≤ (yW.alloc (.cells (w3 (.slice paW gr qaW) G.n (.slice pcW gd qcW)) 28)).heap.size) := hb.size
  replace L := Lib.hid (bst L.out hb L.out.size)
  clear hb
  have RW := RN
  clear RN
  refine (HI.out _).mono ?_
  rintro e yG ⟨a1, c1, rfl, ho, hb⟩
  have hsh := ho.shapes
  simp only [HNgr.out, HNgd.out] at hsh
  obtain ⟨⟨paG, qaG, rfl⟩, ⟨pcG, qcG, rfl⟩⟩ := hsh
  have OG : Hid (OwnW yG (yW.alloc (.cells (w3 (.slice paW gr qaW) G.n (.slice pcW gd qcW)) 28)).heap.size yG.heap.size (.slice paG gr qaG) (.slice pcG gd qcG) G) := ho
  clear ho
  replace RW := Lib.hid (Row.below RW.out hb)
  replace OW := Lib.hid (OwnW.below OW.out hb)
  have S4 : Hid ((yW.alloc (.cells (w3 (.slice paW gr qaW) G.n (.slice pcW gd qcW)) 28)).heap.size ≤ yG.heap.size) := hb.size
  replace L := Lib.hid (bst L.out hb L.out.size)
  clear hb
  have c0W := Row.cell RW.out 0
  have c1W := Row.cell RW.out 1
  have c2W := Row.cell RW.out 2
  have ltW := Row.lt RW.out
  go_wp2_with fail
  clear c0W c1W c2W ltW
  have hb := below1 yG (.cells (w3 (.slice paG gr qaG) G.n (.slice pcG gd qcG)) 28)
  have RN : Hid (Row (yG.alloc (.cells (w3 (.slice paG gr qaG) G.n (.slice pcG gd qcG)) 28)) yG.heap.size 28 (w3 (.slice paG gr qaG) G.n (.slice pcG gd qcG))) := Row.new yG _ _
  have S5 : Hid (yG.heap.size < (yG.alloc (.cells (w3 (.slice paG gr qaG) G.n (.slice pcG gd qcG)) 28)).heap.size) := (by unfold Hid; simp)
  replace RW := Lib.hid (Row.below RW.out hb)
  replace OW := Lib.hid (OwnW.below OW.out hb)
  replace OG := Lib.hid (OwnW.below OG.out hb)
  have S6 : Hid (yG.heap.size ≤ (yG.alloc (.cells (w3 (.slice paG gr qaG) G.n (.slice pcG gd qcG)) 28)).heap.size) := hb.size
  replace L := Lib.hid (bst L.out hb L.out.size)
  clear hb
  have RG := RN
  clear RN
  refine (c_eqWork (.slice paG gr qaG) (.slice pcG gd qcG) (.slice paW gr qaW) (.slice pcW gd qcW) G _ OG.out.reads OW.out.reads HRZ.out.2.2).mono ?_
  rintro e ye ⟨rfl, hb⟩
  replace RW := Lib.hid (Row.below RW.out hb)
  replace RG := Lib.hid (Row.below RG.out hb)
  replace OW := Lib.hid (OwnW.below OW.out hb)
  replace OG := Lib.hid (OwnW.below OG.out hb)
  have S7 : Hid ((yG.alloc (.cells (w3 (.slice paG gr qaG) G.n (.slice pcG gd qcG)) 28)).heap.size ≤ ye.heap.size) := hb.size
  replace L := Lib.hid (bst L.out hb L.out.size)
  clear hb
  have c0W := Row.cell RW.out 0
  have c1W := Row.cell RW.out 1
  have c2W := Row.cell RW.out 2
  have ltW := Row.lt RW.out
  have c0G := Row.cell RG.out 0
  have c1G := Row.cell RG.out 1
  have c2G := Row.cell RG.out 2
  have ltG := Row.lt RG.out
  go_wp2_with fail
  clear c0W c1W c2W ltW c0G c1G c2G ltG
  refine (c_markWork (yW.alloc (.cells (w3 (.slice paW gr qaW) G.n (.slice pcW gd qcW)) 28)).heap.size yG.heap.size (.slice paG gr qaG) G.n (.slice pcG gd qcG) G 1 _ OG.out (by omega) (by rw [HSMg.out]; have h9 := HRZ.out; omega) (by rw [HNgr.out]; have h9 := HRZ.out; omega) (by have := S1.out; have := S2.out; have := S3.out; have := S4.out; have := S5.out; have := S6.out; have := S7.out; omega)).mono ?_
  rintro e wm3 ⟨rfl, ho, hch⟩
  rw [HSMg.out]
  have QW : Hid (yW.heap.size < ye.heap.size) := Row.lt RW.out
  have QG : Hid (yG.heap.size < ye.heap.size) := Row.lt RG.out
  replace RW := Lib.hid (Row.chg RW.out hch (by have := S1.out; have := S2.out; have := S3.out; have := S4.out; have := S5.out; have := S6.out; have := S7.out; have := QW.out; omega))
  replace RG := Lib.hid (Row.chg RG.out hch (by have := S1.out; have := S2.out; have := S3.out; have := S4.out; have := S5.out; have := S6.out; have := S7.out; have := QG.out; omega))
  replace OW := Lib.hid (OwnW.chg OW.out hch (by have := S1.out; have := S2.out; have := S3.out; have := S4.out; have := S5.out; have := S6.out; have := S7.out; omega))
  replace L := Lib.hid (below_chg L.out hch (by have := S1.out; have := S2.out; have := S3.out; have := S4.out; have := S5.out; have := S6.out; have := S7.out; omega) L.out.size)
  have S8 : Hid (ye.heap.size ≤ wm3.heap.size) := hch.size
  clear hch QW QG
  replace OG := Lib.hid ho
  clear ho
  have c0W := Row.cell RW.out 0
  have c1W := Row.cell RW.out 1
  have c2W := Row.cell RW.out 2
  have ltW := Row.lt RW.out
  have c0G := Row.cell RG.out 0
  have c1G := Row.cell RG.out 1
  have c2G := Row.cell RG.out 2
  have ltG := Row.lt RG.out
  go_wp2_with fail
  clear c0W c1W c2W ltW c0G c1G c2G ltG
  refine (c_heldWork (.slice paG gr qaG) G.n (.slice pcG gd qcG) G 1 _ OG.out.reads (by omega) (by rw [HSMg.out]; have h9 := HRZ.out; omega) (by rw [HNgr.out]; have h9 := HRZ.out; omega)).mono ?_
  rintro e yh ⟨rfl, hb⟩
  rw [HSMg.out]
  replace RW := Lib.hid (Row.below RW.out hb)
  replace RG := Lib.hid (Row.below RG.out hb)
  replace OW := Lib.hid (OwnW.below OW.out hb)
  replace OG := Lib.hid (OwnW.below OG.out hb)
  have S9 : Hid (wm3.heap.size ≤ yh.heap.size) := hb.size
  replace L := Lib.hid (bst L.out hb L.out.size)
  clear hb
  have c0W := Row.cell RW.out 0
  have c1W := Row.cell RW.out 1
  have c2W := Row.cell RW.out 2
  have ltW := Row.lt RW.out
  have c0G := Row.cell RG.out 0
  have c1G := Row.cell RG.out 1
  have c2G := Row.cell RG.out 2
  have ltG := Row.lt RG.out
  go_wp2_with fail
  clear c0W c1W c2W ltW c0G c1G c2G ltG
  refine (HI.out _).mono ?_
  rintro e yH ⟨a1, c1, rfl, ho, hb⟩
  have hsh := ho.shapes
  simp only [HNgr.out, HNgd.out] at hsh
  obtain ⟨⟨paH, qaH, rfl⟩, ⟨pcH, qcH, rfl⟩⟩ := hsh
  have OH : Hid (OwnW yH yh.heap.size yH.heap.size (.slice paH gr qaH) (.slice pcH gd qcH) G) := ho
  clear ho
  replace RW := Lib.hid (Row.below RW.out hb)
  replace RG := Lib.hid (Row.below RG.out hb)
  replace OW := Lib.hid (OwnW.below OW.out hb)
  replace OG := Lib.hid (OwnW.below OG.out hb)
  have S10 : Hid (yh.heap.size ≤ yH.heap.size) := hb.size
  replace L := Lib.hid (bst L.out hb L.out.size)
  clear hb
  have c0W := Row.cell RW.out 0
  have c1W := Row.cell RW.out 1
  have c2W := Row.cell RW.out 2
  have ltW := Row.lt RW.out
  have c0G := Row.cell RG.out 0
  have c1G := Row.cell RG.out 1
  have c2G := Row.cell RG.out 2
  have ltG := Row.lt RG.out
  go_wp2_with fail
  clear c0W c1W c2W ltW c0G c1G c2G ltG
  have hb := below1 yH (.cells (w3 (.slice paH gr qaH) G.n (.slice pcH gd qcH)) 28)
  have RN : Hid (Row (yH.alloc (.cells (w3 (.slice paH gr qaH) G.n (.slice pcH gd qcH)) 28)) yH.heap.size 28 (w3 (.slice paH gr qaH) G.n (.slice pcH gd qcH))) := Row.new yH _ _
  have S11 : Hid (yH.heap.size < (yH.alloc (.cells (w3 (.slice paH gr qaH) G.n (.slice pcH gd qcH)) 28)).heap.size) := (by unfold Hid; simp)
  replace RW := Lib.hid (Row.below RW.out hb)
  replace RG := Lib.hid (Row.below RG.out hb)
  replace OW := Lib.hid (OwnW.below OW.out hb)
  replace OG := Lib.hid (OwnW.below OG.out hb)
  replace OH := Lib.hid (OwnW.below OH.out hb)
  have S12 : Hid (yH.heap.size ≤ (yH.alloc (.cells (w3 (.slice paH gr qaH) G.n (.slice pcH gd qcH)) 28)).heap.size) := hb.size
  replace L := Lib.hid (bst L.out hb L.out.size)
  clear hb
  have RH := RN
  clear RN
  refine (c_eqWork (.slice paH gr qaH) (.slice pcH gd qcH) (.slice paW gr qaW) (.slice pcW gd qcW) G _ OH.out.reads OW.out.reads HRZ.out.2.2).mono ?_
  rintro e yg ⟨rfl, hb⟩
  replace RW := Lib.hid (Row.below RW.out hb)
  replace RG := Lib.hid (Row.below RG.out hb)
  replace RH := Lib.hid (Row.below RH.out hb)
  replace OW := Lib.hid (OwnW.below OW.out hb)
  replace OG := Lib.hid (OwnW.below OG.out hb)
  replace OH := Lib.hid (OwnW.below OH.out hb)
  have S13 : Hid ((yH.alloc (.cells (w3 (.slice paH gr qaH) G.n (.slice pcH gd qcH)) 28)).heap.size ≤ yg.heap.size) := hb.size
  replace L := Lib.hid (bst L.out hb L.out.size)
  clear hb
  have c0W := Row.cell RW.out 0
  have c1W := Row.cell RW.out 1
  have c2W := Row.cell RW.out 2
  have ltW := Row.lt RW.out
  have c0G := Row.cell RG.out 0
  have c1G := Row.cell RG.out 1
  have c2G := Row.cell RG.out 2
  have ltG := Row.lt RG.out
  have c0H := Row.cell RH.out 0
  have c1H := Row.cell RH.out 1
  have c2H := Row.cell RH.out 2
  have ltH := Row.lt RH.out
  go_wp2_with fail
  clear c0W c1W c2W ltW c0G c1G c2G ltG c0H c1H c2H ltH
  refine (c_heldWork (.slice paG gr qaG) G.n (.slice pcG gd qcG) G 1 _ OG.out.reads (by omega) (by rw [HSMg.out]; have h9 := HRZ.out; omega) (by rw [HNgr.out]; have h9 := HRZ.out; omega)).mono ?_
  rintro e yi ⟨rfl, hb⟩
  rw [HSMg.out]
  replace RW := Lib.hid (Row.below RW.out hb)
  replace RG := Lib.hid (Row.below RG.out hb)
  replace RH := Lib.hid (Row.below RH.out hb)
  replace OW := Lib.hid (OwnW.below OW.out hb)
  replace OG := Lib.hid (OwnW.below OG.out hb)
  replace OH := Lib.hid (OwnW.below OH.out hb)
  have S14 : Hid (yg.heap.size ≤ yi.heap.size) := hb.size
  replace L := Lib.hid (bst L.out hb L.out.size)
  clear hb
  have c0W := Row.cell RW.out 0
  have c1W := Row.cell RW.out 1
  have c2W := Row.cell RW.out 2
  have ltW := Row.lt RW.out
  have c0G := Row.cell RG.out 0
  have c1G := Row.cell RG.out 1
  have c2G := Row.cell RG.out 2
  have ltG := Row.lt RG.out
  have c0H := Row.cell RH.out 0
  have c1H := Row.cell RH.out 1
  have c2H := Row.cell RH.out 2
  have ltH := Row.lt RH.out
  go_wp2_with fail
  clear c0W c1W c2W ltW c0G c1G c2G ltG c0H c1H c2H ltH
  go_ret
  exact ⟨rfl, L.out⟩
theorem walk_FnExactNewWork (n : Int) (w : World) (_hn : -9223372036854775808 ≤ n ∧ n ≤ 9223372036854775807) : Calls Try.prog 5 #[.int .i64 n] w fun e w' => e = .returned (.bool true) ∧ Below w.heap.size w w' :=
  core_FnExactNewWork n (newW n) (isCnt n) w (wt_new n) (fun w => s_NewWork n w) (fun w => c_NewWork n w)
end Go.Proofs.Ytkbphmnacdpdgaa
namespace Go.Proofs.Ytkbphmnacdpdgaa.xNewWork
open Go.ChangeShapes Go.WideShapes Go.ChangeAt Go.RowKit

set_option maxRecDepth 100000 in
theorem contract (H : Type) (enc : TypeId × Value → H) (W : World) (base : Nat) (args : Array Value) (ds gs : List (DataW H)) (before : List MemPlace)
    (hval : ∀ (j : Nat) t v, Try.f5.params[j]? = some t → args[j]? = some v → Value.okWide Try.prog W .any base t v)
    (hW : DataW.Whole enc Try.prog Try.f5.params.toList Rows.fnExactNewWorkSpec.vars false W args.toList ds gs before) :
    Calls Try.prog 5 args W fun e W' => ∃ v, e = .returned v ∧ Rows.fnExactNewWorkSpec.post enc Try.prog Try.f5 false true false false W args v W' := by
  have hW' := hW
  obtain ⟨p, q, hA0, hV, rfl, hfz, hnd⟩ := hW
  have hA : DataW.TrodAll enc Try.prog W 0 (fun _ => true) true Try.f5.params.toList args.toList ds p := hA0
  have hpar : ∀ t ∈ Try.f5.params.toList, Try.prog.readableRec t = true ∧ t < Try.prog.types.size := by
    rw [Try.params5]; intro t ht; simp at ht; subst ht; exact r_int
  rw [Try.params5] at hA hval
  obtain ⟨v0, vs0, d0, ds0, p0, q0, hargs, rfl, rfl, h0, r0⟩ := trodAll_cons hA
  obtain ⟨rfl, rfl, rfl⟩ := trodAll_nil r0
  obtain rfl : args = #[v0] := by cases args; simp_all
  obtain ⟨rfl, rfl⟩ := trodVars_none hV
  obtain ⟨a0, rfl, rfl, rfl, wa0⟩ := open_int Try.underlying3 (hval 0 3 v0 rfl rfl) h0
  refine (walk_FnExactNewWork a0 W (bounds_i64 wa0)).mono fun e W' ⟨he, hb⟩ => ?_
  subst he
  exact ⟨_, rfl, law_post laidOut hpar (fun n hn => by cases hn) hW' hb rfl (by kernel_rfl) Try.underlying4⟩

set_option maxRecDepth 100000 in
theorem lifted (os : Os) (started : os.Started) (H : Type) (enc : TypeId × Value → H) :
    ReturnsInHanded {} Try.checked os 5 .any (Rows.fnExactNewWorkSpec.pre6 enc Try.prog Try.f5 Rows.fnExactNewWorkRow.domain false) (Rows.fnExactNewWorkSpec.post enc Try.prog Try.f5 false true false false) := by
  refine returnsInHanded_of_change (C := Try.checked) own started (by kernel_rfl) Try.func5
    (ChangeSpec.witness6 (enc := enc) (C := Try.checked) false ⟨#[], #[.int .i64 0], []⟩ 8 (by kernel_rfl) (by kernel_rfl) (by kernel_rfl) (by kernel_rfl)) ?_
  intro W base args ds gs before hval hW _ _
  exact contract H enc W base args ds gs before hval hW
end Go.Proofs.Ytkbphmnacdpdgaa.xNewWork
namespace Go.Proofs.Ytkbphmnacdpdgaa
theorem xNewWork_said : Rows.FnExactNewWorkSaid :=
  OpenClaim.holds_of_wide 5 Try.f5 rfl rfl rfl rfl rfl rfl rfl ⟨rfl, rfl, rfl, rfl, rfl⟩ rfl rfl rfl rfl rfl (by kernel_rfl) Try.func5 (by kernel_rfl)
    (of_decide_eq_true (by kernel_rfl)) (by unfold Func.isWrapper; first | (rw [if_pos (by decide +kernel)]; kernel_rfl) | (rw [if_neg (by decide +kernel)]; exact ⟨rfl, rfl⟩))
    (fun os started H enc _ => xNewWork.lifted os started H enc)
end Go.Proofs.Ytkbphmnacdpdgaa
