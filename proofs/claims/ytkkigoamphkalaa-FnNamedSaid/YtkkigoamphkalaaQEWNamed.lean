/- The walk. -/
import Derived.Test.YtkkigoamphkalaaQE6
namespace Go.Proofs.Ytkkigoamphkalaa
open Go.RowKit Ph

theorem wt_bounds {h : H} (k : wtH h ≤ 1000) : h.f.length ≤ 1000 ∧ h.l.length ≤ 1000 ∧ h.r.length ≤ 1000 ∧ ∀ i, (h.f.getD i []).length ≤ 1000 := by
  unfold wtH wt at k
  refine ⟨by omega, by omega, by omega, fun i => ?_⟩
  by_cases hi : i < h.f.length
  · have h1 := sumL_succ hi
    have h2 := sumL_le h.f (i + 1)
    omega
  · simp [List.getD, List.getElem?_eq_none (Nat.le_of_not_lt hi)]
theorem EndH.reads {h : H} {ok : Bool} {w w' : World} {e : Ending} (k : EndH h ok w e w') : ∃ a b c, e = .returned (.tuple #[hv a b c, .bool ok]) ∧ HeapAt w' a b c h ∧ Below w.heap.size w w' := by
  obtain ⟨a, b, c, h1, h2, h3⟩ := k
  exact ⟨a, b, c, h1, h2.reads, h3⟩
theorem EndHI.reads {h : H} {n : Int} {ok : Bool} {w w' : World} {e : Ending} (k : EndHI h n ok w e w') : ∃ a b c, e = .returned (.tuple #[hv a b c, .int .i64 n, .bool ok]) ∧ HeapAt w' a b c h ∧ Below w.heap.size w w' := by
  obtain ⟨a, b, c, h1, h2, h3⟩ := k
  exact ⟨a, b, c, h1, h2.reads, h3⟩
theorem EndB.reads5 {bs : List Bool} {ok : Bool} {w w' : World} {e : Ending} (h : EndB bs ok w e w') : ∃ v, e = .returned (.tuple #[v, .bool ok]) ∧ BoolsAt w' v bs ∧ Below w.heap.size w w' := by
  obtain ⟨v, h1, h2, h3⟩ := h
  exact ⟨v, h1, h2.reads.l, h3⟩
set_option maxHeartbeats 12800000 in
set_option maxRecDepth 100000 in
theorem walk_FnNamed (v0 : Value) (z0 : List Int) (v1 : Value) (z1 : List Int) (w : World) (hz0 : BytesAt w v0 z0) (hz1 : BytesAt w v1 z1) : Calls Try.prog 12 #[v0, v1] w fun e w' => e = .returned (.bool true) ∧ Below w.heap.size w w' := by
  obtain ⟨_, _, a0, ca0, hv0, _⟩ := id hz0
  obtain ⟨_, _, a2, ca2, hv2, _⟩ := id hz1
  have HZ := Lib.hid hz0; have M1 := Lib.hid hz1; clear hz0 hz1
  subst hv0
  subst hv2
  generalize hn : z0.length = n at *
  generalize hn2 : z1.length = n2 at *
  clear hn hn2
  by_cases hm : 1048576 < Go.RowKit.wrap64 ((n : Int) + (n2 : Int))
  · go_enter Try.func12, Try.ntmps12
    go_wp2
    go_ret
    exact ⟨rfl, Below.refl _ _⟩
  have L := Lib.hid (Below.refl w.heap.size w)
  go_enter Try.func12, Try.ntmps12
  go_wp2_with fail
  refine (d_SetField _ z0 _ HZ.out).mono ?_
  rintro e w1 ⟨a, b, cc, h, t, f, z, rfl, hsh, hA, hb⟩
  clear HZ
  obtain ⟨paH, qaH, rfl⟩ := hA.f.shape
  obtain ⟨pbH, qbH, rfl⟩ := hA.l.shape
  obtain ⟨pcH, qcH, rfl⟩ := hA.r.shape
  have HA := Lib.hid hA
  have FS := Lib.hid (setF_facts (h := h) (t := t) (f := f) (z := z))
  have HSN := Lib.hid hsh.n; have HSR := Lib.hid hsh.row
  have HBS : Hid (∀ X : H, X = setF h t f z → X.f.length ≤ 1000 ∧ X.l.length ≤ 1000 ∧ X.r.length ≤ 1000 ∧ ∀ i, (X.f.getD i []).length ≤ 1000) := fun X q => by rw [q]; exact wt_bounds (setF_wt h t f z)
  have HC1 := Lib.hid (fun w' q1 => c_SetField (.slice paH h.f.length qaH) (.slice pbH h.l.length qbH) (.slice pcH h.r.length qcH) h t f z w' q1)
  have HC2 := Lib.hid (fun w' q1 => s_SetField (.slice paH h.f.length qaH) (.slice pbH h.l.length qbH) (.slice pcH h.r.length qcH) h t f z w' q1)
  clear hA hsh
  generalize setF h t f z = s at *
  generalize setFOk h t f z = ok at *
  generalize h.f.length = nfH at *
  generalize h.l.length = nlH at *
  generalize h.r.length = nrH at *
  obtain ⟨nfS, hnf⟩ : ∃ q, s.f.length = q := ⟨_, rfl⟩
  obtain ⟨nlS, hnl⟩ : ∃ q, s.l.length = q := ⟨_, rfl⟩
  obtain ⟨nrS, hnr⟩ : ∃ q, s.r.length = q := ⟨_, rfl⟩
  have NSf := Lib.hid hnf; have NSl := Lib.hid hnl; have NSr := Lib.hid hnr
  clear hnf hnl hnr
  replace M1 := Lib.hid (M1.out.below hb)
  replace L := Lib.hid (bst L.out hb L.out.size)
  clear hb
  have hbq := below1 w1 (.cells (c3 (.slice paH nfH qaH) (.slice pbH nlH qbH) (.slice pcH nrH qcH)) 30)
  replace M1 := Lib.hid (M1.out.below hbq)
  replace HA := Lib.hid (HA.out.below hbq)
  replace L := Lib.hid (bst L.out hbq L.out.size)
  clear hbq
  have VH := Lib.hid (show RowH _ _ _ _ _ from Row.new w1 30 (c3 (.slice paH nfH qaH) (.slice pbH nlH qbH) (.slice pcH nrH qcH)))
  have c0VH := VH.out.c0
  have c1VH := VH.out.c1
  have c2VH := VH.out.c2
  go_wp2_with fail
  clear c0VH c1VH c2VH
  refine (HC1.out _ HA.out).mono ?_
  intro e w2 hend
  obtain ⟨aG, bG, cG, rfl, hiG, hb⟩ := hend.reads
  clear hend
  obtain ⟨paG, qaG, rfl⟩ := hiG.f.shape
  obtain ⟨pbG, qbG, rfl⟩ := hiG.l.shape
  obtain ⟨pcG, qcG, rfl⟩ := hiG.r.shape
  replace M1 := Lib.hid (M1.out.below hb)
  replace HA := Lib.hid (HA.out.below hb)
  replace VH := Lib.hid (VH.out.below hb)
  replace L := Lib.hid (bst L.out hb L.out.size)
  have IG := Lib.hid hiG
  clear hb hiG
  simp only [NSf.out, NSl.out, NSr.out] at IG ⊢
  have hbq := below1 w2 (.cells (c3 (.slice paG nfS qaG) (.slice pbG nlS qbG) (.slice pcG nrS qcG)) 30)
  replace M1 := Lib.hid (M1.out.below hbq)
  replace HA := Lib.hid (HA.out.below hbq)
  replace VH := Lib.hid (VH.out.below hbq)
  replace IG := Lib.hid (IG.out.below hbq)
  replace L := Lib.hid (bst L.out hbq L.out.size)
  clear hbq
  have VG := Lib.hid (show RowH _ _ _ _ _ from Row.new w2 30 (c3 (.slice paG nfS qaG) (.slice pbG nlS qbG) (.slice pcG nrS qcG)))
  have c0VH := VH.out.c0
  have c1VH := VH.out.c1
  have c2VH := VH.out.c2
  go_wp2_with fail
  clear c0VH c1VH c2VH
  refine (HC2.out _ HA.out).mono ?_
  intro e w3 hend
  obtain ⟨aW, bW, cW, rfl, hiW, hb⟩ := hend.reads
  clear hend
  obtain ⟨paW, qaW, rfl⟩ := hiW.f.shape
  obtain ⟨pbW, qbW, rfl⟩ := hiW.l.shape
  obtain ⟨pcW, qcW, rfl⟩ := hiW.r.shape
  replace M1 := Lib.hid (M1.out.below hb)
  replace HA := Lib.hid (HA.out.below hb)
  replace VH := Lib.hid (VH.out.below hb)
  replace IG := Lib.hid (IG.out.below hb)
  replace VG := Lib.hid (VG.out.below hb)
  replace L := Lib.hid (bst L.out hb L.out.size)
  have IW := Lib.hid hiW
  clear hb hiW
  simp only [NSf.out, NSl.out, NSr.out] at IW ⊢
  have hbq := below1 w3 (.cells (c3 (.slice paW nfS qaW) (.slice pbW nlS qbW) (.slice pcW nrS qcW)) 30)
  replace M1 := Lib.hid (M1.out.below hbq)
  replace HA := Lib.hid (HA.out.below hbq)
  replace VH := Lib.hid (VH.out.below hbq)
  replace IG := Lib.hid (IG.out.below hbq)
  replace VG := Lib.hid (VG.out.below hbq)
  replace IW := Lib.hid (IW.out.below hbq)
  replace L := Lib.hid (bst L.out hbq L.out.size)
  clear hbq
  have VW := Lib.hid (show RowH _ _ _ _ _ from Row.new w3 30 (c3 (.slice paW nfS qaW) (.slice pbW nlS qbW) (.slice pcW nrS qcW)))
  have e1 : (ok != ok) = false := by simp
  have c0VG := VG.out.c0
  have c1VG := VG.out.c1
  have c2VG := VG.out.c2
  have c0VW := VW.out.c0
  have c1VW := VW.out.c1
  have c2VW := VW.out.c2
  go_wp2_with fail
  clear c0VG c1VG c2VG c0VW c1VW c2VW
  obtain ⟨u1, u2, u3, u4⟩ := HBS.out _ rfl
  refine (c_sameHeap _ _ _ _ _ _ s _ IG.out IW.out u1 u2 u3 u4).mono ?_
  clear u1 u2 u3 u4
  rintro e w4 ⟨rfl, hb⟩
  replace M1 := Lib.hid (M1.out.below hb)
  replace HA := Lib.hid (HA.out.below hb)
  replace VH := Lib.hid (VH.out.below hb)
  replace IG := Lib.hid (IG.out.below hb)
  replace VG := Lib.hid (VG.out.below hb)
  replace IW := Lib.hid (IW.out.below hb)
  replace VW := Lib.hid (VW.out.below hb)
  replace L := Lib.hid (bst L.out hb L.out.size)
  clear hb
  cases ok
  · skip
    go_wp2_with fail
    refine (d_NewThing _ z1 _ M1.out).mono ?_
    rintro e x1a ⟨aU, bU, cU, hU, mU, rfl, hshU, hmU, hAU, hb⟩
    obtain ⟨paU, qaU, rfl⟩ := hAU.f.shape
    obtain ⟨pbU, qbU, rfl⟩ := hAU.l.shape
    obtain ⟨pcU, qcU, rfl⟩ := hAU.r.shape
    replace M1 := Lib.hid (M1.out.below hb)
    replace HA := Lib.hid (HA.out.below hb)
    replace VH := Lib.hid (VH.out.below hb)
    replace IG := Lib.hid (IG.out.below hb)
    replace VG := Lib.hid (VG.out.below hb)
    replace IW := Lib.hid (IW.out.below hb)
    replace VW := Lib.hid (VW.out.below hb)
    replace L := Lib.hid (bst L.out hb L.out.size)
    have HU := Lib.hid hAU
    have FN := Lib.hid (new_facts (h := hU) (m := mU))
    have HBN : Hid (∀ X : H, X = (newP hU mU).1 → X.f.length ≤ 1000 ∧ X.l.length ≤ 1000 ∧ X.r.length ≤ 1000 ∧ ∀ i, (X.f.getD i []).length ≤ 1000) := fun X q => by rw [q]; exact wt_bounds (newP_wt hU mU)
    have HN1 := Lib.hid (fun w' q1 => c_NewThing (.slice paU hU.f.length qaU) (.slice pbU hU.l.length qbU) (.slice pcU hU.r.length qcU) hU mU w' q1)
    have HN2 := Lib.hid (fun w' q1 => s_NewThing (.slice paU hU.f.length qaU) (.slice pbU hU.l.length qbU) (.slice pcU hU.r.length qcU) hU mU w' q1)
    clear hb hAU hshU
    generalize (newP hU mU).1 = hN at *
    generalize (newP hU mU).2 = kN at *
    generalize newOk hU mU = okN at *
    generalize hU.f.length = nfU at *
    generalize hU.l.length = nlU at *
    generalize hU.r.length = nrU at *
    obtain ⟨nfN, hnf⟩ : ∃ q, hN.f.length = q := ⟨_, rfl⟩
    obtain ⟨nlN, hnl⟩ : ∃ q, hN.l.length = q := ⟨_, rfl⟩
    obtain ⟨nrN, hnr⟩ : ∃ q, hN.r.length = q := ⟨_, rfl⟩
    have NNf := Lib.hid hnf; have NNl := Lib.hid hnl; have NNr := Lib.hid hnr
    clear hnf hnl hnr
    have hbq := below1 x1a (.cells (c3 (.slice paU nfU qaU) (.slice pbU nlU qbU) (.slice pcU nrU qcU)) 30)
    replace M1 := Lib.hid (M1.out.below hbq)
    replace HA := Lib.hid (HA.out.below hbq)
    replace VH := Lib.hid (VH.out.below hbq)
    replace IG := Lib.hid (IG.out.below hbq)
    replace VG := Lib.hid (VG.out.below hbq)
    replace IW := Lib.hid (IW.out.below hbq)
    replace VW := Lib.hid (VW.out.below hbq)
    replace HU := Lib.hid (HU.out.below hbq)
    replace L := Lib.hid (bst L.out hbq L.out.size)
    clear hbq
    have VU := Lib.hid (show RowH _ _ _ _ _ from Row.new x1a 30 (c3 (.slice paU nfU qaU) (.slice pbU nlU qbU) (.slice pcU nrU qcU)))
    have c0VU := VU.out.c0
    have c1VU := VU.out.c1
    have c2VU := VU.out.c2
    go_wp2_with fail
    clear c0VU c1VU c2VU
    refine (HN1.out _ HU.out).mono ?_
    intro e x2a hend
    obtain ⟨aM, bM, cM, rfl, hiM, hb⟩ := hend.reads
    clear hend
    obtain ⟨paM, qaM, rfl⟩ := hiM.f.shape
    obtain ⟨pbM, qbM, rfl⟩ := hiM.l.shape
    obtain ⟨pcM, qcM, rfl⟩ := hiM.r.shape
    replace M1 := Lib.hid (M1.out.below hb)
    replace HA := Lib.hid (HA.out.below hb)
    replace VH := Lib.hid (VH.out.below hb)
    replace IG := Lib.hid (IG.out.below hb)
    replace VG := Lib.hid (VG.out.below hb)
    replace IW := Lib.hid (IW.out.below hb)
    replace VW := Lib.hid (VW.out.below hb)
    replace HU := Lib.hid (HU.out.below hb)
    replace VU := Lib.hid (VU.out.below hb)
    replace L := Lib.hid (bst L.out hb L.out.size)
    have IM := Lib.hid hiM
    clear hb hiM
    simp only [NNf.out, NNl.out, NNr.out] at IM ⊢
    have hbq := below1 x2a (.cells (c3 (.slice paM nfN qaM) (.slice pbM nlN qbM) (.slice pcM nrN qcM)) 30)
    replace M1 := Lib.hid (M1.out.below hbq)
    replace HA := Lib.hid (HA.out.below hbq)
    replace VH := Lib.hid (VH.out.below hbq)
    replace IG := Lib.hid (IG.out.below hbq)
    replace VG := Lib.hid (VG.out.below hbq)
    replace IW := Lib.hid (IW.out.below hbq)
    replace VW := Lib.hid (VW.out.below hbq)
    replace HU := Lib.hid (HU.out.below hbq)
    replace VU := Lib.hid (VU.out.below hbq)
    replace IM := Lib.hid (IM.out.below hbq)
    replace L := Lib.hid (bst L.out hbq L.out.size)
    clear hbq
    have VM := Lib.hid (show RowH _ _ _ _ _ from Row.new x2a 30 (c3 (.slice paM nfN qaM) (.slice pbM nlN qbM) (.slice pcM nrN qcM)))
    have c0VU := VU.out.c0
    have c1VU := VU.out.c1
    have c2VU := VU.out.c2
    go_wp2_with fail
    clear c0VU c1VU c2VU
    refine (HN2.out _ HU.out).mono ?_
    intro e x3a hend
    obtain ⟨aO, bO, cO, rfl, hiO, hb⟩ := hend.reads
    clear hend
    obtain ⟨paO, qaO, rfl⟩ := hiO.f.shape
    obtain ⟨pbO, qbO, rfl⟩ := hiO.l.shape
    obtain ⟨pcO, qcO, rfl⟩ := hiO.r.shape
    replace M1 := Lib.hid (M1.out.below hb)
    replace HA := Lib.hid (HA.out.below hb)
    replace VH := Lib.hid (VH.out.below hb)
    replace IG := Lib.hid (IG.out.below hb)
    replace VG := Lib.hid (VG.out.below hb)
    replace IW := Lib.hid (IW.out.below hb)
    replace VW := Lib.hid (VW.out.below hb)
    replace HU := Lib.hid (HU.out.below hb)
    replace VU := Lib.hid (VU.out.below hb)
    replace IM := Lib.hid (IM.out.below hb)
    replace VM := Lib.hid (VM.out.below hb)
    replace L := Lib.hid (bst L.out hb L.out.size)
    have IO := Lib.hid hiO
    clear hb hiO
    simp only [NNf.out, NNl.out, NNr.out] at IO ⊢
    have hbq := below1 x3a (.cells (c3 (.slice paO nfN qaO) (.slice pbO nlN qbO) (.slice pcO nrN qcO)) 30)
    replace M1 := Lib.hid (M1.out.below hbq)
    replace HA := Lib.hid (HA.out.below hbq)
    replace VH := Lib.hid (VH.out.below hbq)
    replace IG := Lib.hid (IG.out.below hbq)
    replace VG := Lib.hid (VG.out.below hbq)
    replace IW := Lib.hid (IW.out.below hbq)
    replace VW := Lib.hid (VW.out.below hbq)
    replace HU := Lib.hid (HU.out.below hbq)
    replace VU := Lib.hid (VU.out.below hbq)
    replace IM := Lib.hid (IM.out.below hbq)
    replace VM := Lib.hid (VM.out.below hbq)
    replace IO := Lib.hid (IO.out.below hbq)
    replace L := Lib.hid (bst L.out hbq L.out.size)
    clear hbq
    have VO := Lib.hid (show RowH _ _ _ _ _ from Row.new x3a 30 (c3 (.slice paO nfN qaO) (.slice pbO nlN qbO) (.slice pcO nrN qcO)))
    go_wp2_with fail
    refine (d_SetRoot _ z1 _ M1.out).mono ?_
    rintro e x4a ⟨aR, bR, cR, hR, kR, tR, rfl, hshR, hAR, hb⟩
    obtain ⟨paR, qaR, rfl⟩ := hAR.f.shape
    obtain ⟨pbR, qbR, rfl⟩ := hAR.l.shape
    obtain ⟨pcR, qcR, rfl⟩ := hAR.r.shape
    replace M1 := Lib.hid (M1.out.below hb)
    replace HA := Lib.hid (HA.out.below hb)
    replace VH := Lib.hid (VH.out.below hb)
    replace IG := Lib.hid (IG.out.below hb)
    replace VG := Lib.hid (VG.out.below hb)
    replace IW := Lib.hid (IW.out.below hb)
    replace VW := Lib.hid (VW.out.below hb)
    replace HU := Lib.hid (HU.out.below hb)
    replace VU := Lib.hid (VU.out.below hb)
    replace IM := Lib.hid (IM.out.below hb)
    replace VM := Lib.hid (VM.out.below hb)
    replace IO := Lib.hid (IO.out.below hb)
    replace VO := Lib.hid (VO.out.below hb)
    replace L := Lib.hid (bst L.out hb L.out.size)
    have HRR := Lib.hid hAR
    have HBR : Hid (∀ X : H, X = setR hR kR tR → X.f.length ≤ 1000 ∧ X.l.length ≤ 1000 ∧ X.r.length ≤ 1000 ∧ ∀ i, (X.f.getD i []).length ≤ 1000) := fun X q => by rw [q]; exact wt_bounds (setR_wt hR kR tR)
    have HR1 := Lib.hid (fun w' q1 => c_SetRoot (.slice paR hR.f.length qaR) (.slice pbR hR.l.length qbR) (.slice pcR hR.r.length qcR) hR kR tR w' q1)
    have HR2 := Lib.hid (fun w' q1 => s_SetRoot (.slice paR hR.f.length qaR) (.slice pbR hR.l.length qbR) (.slice pcR hR.r.length qcR) hR kR tR w' q1)
    clear hb hAR hshR
    generalize setR hR kR tR = hT at *
    generalize setROk hR kR tR = okR at *
    generalize hR.f.length = nfR at *
    generalize hR.l.length = nlR at *
    generalize hR.r.length = nrR at *
    obtain ⟨nfT, hnf⟩ : ∃ q, hT.f.length = q := ⟨_, rfl⟩
    obtain ⟨nlT, hnl⟩ : ∃ q, hT.l.length = q := ⟨_, rfl⟩
    obtain ⟨nrT, hnr⟩ : ∃ q, hT.r.length = q := ⟨_, rfl⟩
    have NTf := Lib.hid hnf; have NTl := Lib.hid hnl; have NTr := Lib.hid hnr
    clear hnf hnl hnr
    have hbq := below1 x4a (.cells (c3 (.slice paR nfR qaR) (.slice pbR nlR qbR) (.slice pcR nrR qcR)) 30)
    replace M1 := Lib.hid (M1.out.below hbq)
    replace HA := Lib.hid (HA.out.below hbq)
    replace VH := Lib.hid (VH.out.below hbq)
    replace IG := Lib.hid (IG.out.below hbq)
    replace VG := Lib.hid (VG.out.below hbq)
    replace IW := Lib.hid (IW.out.below hbq)
    replace VW := Lib.hid (VW.out.below hbq)
    replace HU := Lib.hid (HU.out.below hbq)
    replace VU := Lib.hid (VU.out.below hbq)
    replace IM := Lib.hid (IM.out.below hbq)
    replace VM := Lib.hid (VM.out.below hbq)
    replace IO := Lib.hid (IO.out.below hbq)
    replace VO := Lib.hid (VO.out.below hbq)
    replace HRR := Lib.hid (HRR.out.below hbq)
    replace L := Lib.hid (bst L.out hbq L.out.size)
    clear hbq
    have VR := Lib.hid (show RowH _ _ _ _ _ from Row.new x4a 30 (c3 (.slice paR nfR qaR) (.slice pbR nlR qbR) (.slice pcR nrR qcR)))
    have c0VR := VR.out.c0
    have c1VR := VR.out.c1
    have c2VR := VR.out.c2
    go_wp2_with fail
    clear c0VR c1VR c2VR
    refine (HR1.out _ HRR.out).mono ?_
    intro e x5a hend
    obtain ⟨aP, bP, cP, rfl, hiP, hb⟩ := hend.reads
    clear hend
    obtain ⟨paP, qaP, rfl⟩ := hiP.f.shape
    obtain ⟨pbP, qbP, rfl⟩ := hiP.l.shape
    obtain ⟨pcP, qcP, rfl⟩ := hiP.r.shape
    replace M1 := Lib.hid (M1.out.below hb)
    replace HA := Lib.hid (HA.out.below hb)
    replace VH := Lib.hid (VH.out.below hb)
    replace IG := Lib.hid (IG.out.below hb)
    replace VG := Lib.hid (VG.out.below hb)
    replace IW := Lib.hid (IW.out.below hb)
    replace VW := Lib.hid (VW.out.below hb)
    replace HU := Lib.hid (HU.out.below hb)
    replace VU := Lib.hid (VU.out.below hb)
    replace IM := Lib.hid (IM.out.below hb)
    replace VM := Lib.hid (VM.out.below hb)
    replace IO := Lib.hid (IO.out.below hb)
    replace VO := Lib.hid (VO.out.below hb)
    replace HRR := Lib.hid (HRR.out.below hb)
    replace VR := Lib.hid (VR.out.below hb)
    replace L := Lib.hid (bst L.out hb L.out.size)
    have IP := Lib.hid hiP
    clear hb hiP
    simp only [NTf.out, NTl.out, NTr.out] at IP ⊢
    have hbq := below1 x5a (.cells (c3 (.slice paP nfT qaP) (.slice pbP nlT qbP) (.slice pcP nrT qcP)) 30)
    replace M1 := Lib.hid (M1.out.below hbq)
    replace HA := Lib.hid (HA.out.below hbq)
    replace VH := Lib.hid (VH.out.below hbq)
    replace IG := Lib.hid (IG.out.below hbq)
    replace VG := Lib.hid (VG.out.below hbq)
    replace IW := Lib.hid (IW.out.below hbq)
    replace VW := Lib.hid (VW.out.below hbq)
    replace HU := Lib.hid (HU.out.below hbq)
    replace VU := Lib.hid (VU.out.below hbq)
    replace IM := Lib.hid (IM.out.below hbq)
    replace VM := Lib.hid (VM.out.below hbq)
    replace IO := Lib.hid (IO.out.below hbq)
    replace VO := Lib.hid (VO.out.below hbq)
    replace HRR := Lib.hid (HRR.out.below hbq)
    replace VR := Lib.hid (VR.out.below hbq)
    replace IP := Lib.hid (IP.out.below hbq)
    replace L := Lib.hid (bst L.out hbq L.out.size)
    clear hbq
    have VP := Lib.hid (show RowH _ _ _ _ _ from Row.new x5a 30 (c3 (.slice paP nfT qaP) (.slice pbP nlT qbP) (.slice pcP nrT qcP)))
    have c0VR := VR.out.c0
    have c1VR := VR.out.c1
    have c2VR := VR.out.c2
    go_wp2_with fail
    clear c0VR c1VR c2VR
    refine (HR2.out _ HRR.out).mono ?_
    intro e x6a hend
    obtain ⟨aQ, bQ, cQ, rfl, hiQ, hb⟩ := hend.reads
    clear hend
    obtain ⟨paQ, qaQ, rfl⟩ := hiQ.f.shape
    obtain ⟨pbQ, qbQ, rfl⟩ := hiQ.l.shape
    obtain ⟨pcQ, qcQ, rfl⟩ := hiQ.r.shape
    replace M1 := Lib.hid (M1.out.below hb)
    replace HA := Lib.hid (HA.out.below hb)
    replace VH := Lib.hid (VH.out.below hb)
    replace IG := Lib.hid (IG.out.below hb)
    replace VG := Lib.hid (VG.out.below hb)
    replace IW := Lib.hid (IW.out.below hb)
    replace VW := Lib.hid (VW.out.below hb)
    replace HU := Lib.hid (HU.out.below hb)
    replace VU := Lib.hid (VU.out.below hb)
    replace IM := Lib.hid (IM.out.below hb)
    replace VM := Lib.hid (VM.out.below hb)
    replace IO := Lib.hid (IO.out.below hb)
    replace VO := Lib.hid (VO.out.below hb)
    replace HRR := Lib.hid (HRR.out.below hb)
    replace VR := Lib.hid (VR.out.below hb)
    replace IP := Lib.hid (IP.out.below hb)
    replace VP := Lib.hid (VP.out.below hb)
    replace L := Lib.hid (bst L.out hb L.out.size)
    have IQ := Lib.hid hiQ
    clear hb hiQ
    simp only [NTf.out, NTl.out, NTr.out] at IQ ⊢
    have hbq := below1 x6a (.cells (c3 (.slice paQ nfT qaQ) (.slice pbQ nlT qbQ) (.slice pcQ nrT qcQ)) 30)
    replace M1 := Lib.hid (M1.out.below hbq)
    replace HA := Lib.hid (HA.out.below hbq)
    replace VH := Lib.hid (VH.out.below hbq)
    replace IG := Lib.hid (IG.out.below hbq)
    replace VG := Lib.hid (VG.out.below hbq)
    replace IW := Lib.hid (IW.out.below hbq)
    replace VW := Lib.hid (VW.out.below hbq)
    replace HU := Lib.hid (HU.out.below hbq)
    replace VU := Lib.hid (VU.out.below hbq)
    replace IM := Lib.hid (IM.out.below hbq)
    replace VM := Lib.hid (VM.out.below hbq)
    replace IO := Lib.hid (IO.out.below hbq)
    replace VO := Lib.hid (VO.out.below hbq)
    replace HRR := Lib.hid (HRR.out.below hbq)
    replace VR := Lib.hid (VR.out.below hbq)
    replace IP := Lib.hid (IP.out.below hbq)
    replace VP := Lib.hid (VP.out.below hbq)
    replace IQ := Lib.hid (IQ.out.below hbq)
    replace L := Lib.hid (bst L.out hbq L.out.size)
    clear hbq
    have VQ := Lib.hid (show RowH _ _ _ _ _ from Row.new x6a 30 (c3 (.slice paQ nfT qaQ) (.slice pbQ nlT qbQ) (.slice pcQ nrT qcQ)))
    have e5 : (okN != okN) = false := by simp
    have e6 : ((kN : Int) != (kN : Int)) = false := by simp
    have e7 : (okR != okR) = false := by simp
    have c0VM := VM.out.c0
    have c1VM := VM.out.c1
    have c2VM := VM.out.c2
    have c0VO := VO.out.c0
    have c1VO := VO.out.c1
    have c2VO := VO.out.c2
    go_wp2_with fail
    clear c0VM c1VM c2VM c0VO c1VO c2VO
    obtain ⟨u1, u2, u3, u4⟩ := HBN.out _ rfl
    refine (c_sameHeap _ _ _ _ _ _ hN _ IM.out IO.out u1 u2 u3 u4).mono ?_
    clear u1 u2 u3 u4
    rintro e y1a ⟨rfl, hb⟩
    replace M1 := Lib.hid (M1.out.below hb)
    replace HA := Lib.hid (HA.out.below hb)
    replace VH := Lib.hid (VH.out.below hb)
    replace IG := Lib.hid (IG.out.below hb)
    replace VG := Lib.hid (VG.out.below hb)
    replace IW := Lib.hid (IW.out.below hb)
    replace VW := Lib.hid (VW.out.below hb)
    replace HU := Lib.hid (HU.out.below hb)
    replace VU := Lib.hid (VU.out.below hb)
    replace IM := Lib.hid (IM.out.below hb)
    replace VM := Lib.hid (VM.out.below hb)
    replace IO := Lib.hid (IO.out.below hb)
    replace VO := Lib.hid (VO.out.below hb)
    replace HRR := Lib.hid (HRR.out.below hb)
    replace VR := Lib.hid (VR.out.below hb)
    replace IP := Lib.hid (IP.out.below hb)
    replace VP := Lib.hid (VP.out.below hb)
    replace IQ := Lib.hid (IQ.out.below hb)
    replace VQ := Lib.hid (VQ.out.below hb)
    replace L := Lib.hid (bst L.out hb L.out.size)
    clear hb
    have c0VP := VP.out.c0
    have c1VP := VP.out.c1
    have c2VP := VP.out.c2
    have c0VQ := VQ.out.c0
    have c1VQ := VQ.out.c1
    have c2VQ := VQ.out.c2
    go_wp2_with fail
    clear c0VP c1VP c2VP c0VQ c1VQ c2VQ
    obtain ⟨u1, u2, u3, u4⟩ := HBR.out _ rfl
    refine (c_sameHeap _ _ _ _ _ _ hT _ IP.out IQ.out u1 u2 u3 u4).mono ?_
    clear u1 u2 u3 u4
    rintro e y2a ⟨rfl, hb⟩
    replace M1 := Lib.hid (M1.out.below hb)
    replace HA := Lib.hid (HA.out.below hb)
    replace VH := Lib.hid (VH.out.below hb)
    replace IG := Lib.hid (IG.out.below hb)
    replace VG := Lib.hid (VG.out.below hb)
    replace IW := Lib.hid (IW.out.below hb)
    replace VW := Lib.hid (VW.out.below hb)
    replace HU := Lib.hid (HU.out.below hb)
    replace VU := Lib.hid (VU.out.below hb)
    replace IM := Lib.hid (IM.out.below hb)
    replace VM := Lib.hid (VM.out.below hb)
    replace IO := Lib.hid (IO.out.below hb)
    replace VO := Lib.hid (VO.out.below hb)
    replace HRR := Lib.hid (HRR.out.below hb)
    replace VR := Lib.hid (VR.out.below hb)
    replace IP := Lib.hid (IP.out.below hb)
    replace VP := Lib.hid (VP.out.below hb)
    replace IQ := Lib.hid (IQ.out.below hb)
    replace VQ := Lib.hid (VQ.out.below hb)
    replace L := Lib.hid (bst L.out hb L.out.size)
    clear hb
    cases okN
    · go_wp2_with fail
      go_ret
      exact ⟨rfl, L.out⟩
    obtain ⟨g1, g2, g3, g4, g5, g6, g7⟩ := FN.out rfl
    have HC3 := Lib.hid (fun w' q1 => c_ReachedIn (.slice paM nfN qaM) (.slice pbM nlN qbM) (.slice pcM nrN qcM) hN w' q1)
    have HC4 := Lib.hid (fun w' q1 => c_GoodHeap (.slice paM nfN qaM) (.slice pbM nlN qbM) (.slice pcM nrN qcM) hN w' q1)
    rw [g1] at HC3 HC4
    rw [NNf.out] at g2 g3 g4
    rw [NNl.out] at g4
    have G5 := Lib.hid g5; have G6 := Lib.hid g6; have G7 := Lib.hid g7; have G2 := Lib.hid g2; have G4 := Lib.hid g4
    clear g1 g2 g4 g5 g6 g7 FN
    generalize reachR hN = rb at *
    have c0VM := VM.out.c0
    have c1VM := VM.out.c1
    have c2VM := VM.out.c2
    go_wp2_with fail
    clear c0VM c1VM c2VM
    refine (HC3.out _ IM.out).mono ?_
    intro e y3a hend
    obtain ⟨vB, rfl, hiB, hb⟩ := hend.reads5
    clear hend
    obtain ⟨pB, qB, rfl⟩ := hiB.shape
    replace M1 := Lib.hid (M1.out.below hb)
    replace HA := Lib.hid (HA.out.below hb)
    replace VH := Lib.hid (VH.out.below hb)
    replace IG := Lib.hid (IG.out.below hb)
    replace VG := Lib.hid (VG.out.below hb)
    replace IW := Lib.hid (IW.out.below hb)
    replace VW := Lib.hid (VW.out.below hb)
    replace HU := Lib.hid (HU.out.below hb)
    replace VU := Lib.hid (VU.out.below hb)
    replace IM := Lib.hid (IM.out.below hb)
    replace VM := Lib.hid (VM.out.below hb)
    replace IO := Lib.hid (IO.out.below hb)
    replace VO := Lib.hid (VO.out.below hb)
    replace HRR := Lib.hid (HRR.out.below hb)
    replace VR := Lib.hid (VR.out.below hb)
    replace IP := Lib.hid (IP.out.below hb)
    replace VP := Lib.hid (VP.out.below hb)
    replace IQ := Lib.hid (IQ.out.below hb)
    replace VQ := Lib.hid (VQ.out.below hb)
    replace L := Lib.hid (bst L.out hb L.out.size)
    have IB := Lib.hid hiB
    clear hb hiB
    have c0VM := VM.out.c0
    have c1VM := VM.out.c1
    have c2VM := VM.out.c2
    go_wp2_with fail
    clear c0VM c1VM c2VM
    refine (HC4.out _ IM.out).mono ?_
    rintro e y4a ⟨rfl, hb⟩
    replace M1 := Lib.hid (M1.out.below hb)
    replace HA := Lib.hid (HA.out.below hb)
    replace VH := Lib.hid (VH.out.below hb)
    replace IG := Lib.hid (IG.out.below hb)
    replace VG := Lib.hid (VG.out.below hb)
    replace IW := Lib.hid (IW.out.below hb)
    replace VW := Lib.hid (VW.out.below hb)
    replace HU := Lib.hid (HU.out.below hb)
    replace VU := Lib.hid (VU.out.below hb)
    replace IM := Lib.hid (IM.out.below hb)
    replace VM := Lib.hid (VM.out.below hb)
    replace IO := Lib.hid (IO.out.below hb)
    replace VO := Lib.hid (VO.out.below hb)
    replace HRR := Lib.hid (HRR.out.below hb)
    replace VR := Lib.hid (VR.out.below hb)
    replace IP := Lib.hid (IP.out.below hb)
    replace VP := Lib.hid (VP.out.below hb)
    replace IQ := Lib.hid (IQ.out.below hb)
    replace VQ := Lib.hid (VQ.out.below hb)
    replace IB := Lib.hid (IB.out.below hb)
    replace L := Lib.hid (bst L.out hb L.out.size)
    clear hb
    have g4 := G4.out
    rw [G2.out] at IB ⊢
    clear G2 G4
    subst g4
    obtain ⟨bb, ob, rfl, hcb⟩ := IB.out.at' (by omega)
    obtain ⟨bl, ol, rfl, hcl⟩ := IM.out.l.at' (by omega)
    obtain ⟨bf, of', rfl, hcf⟩ := IM.out.f.at' (by omega)
    have q1 := hcb kN (by omega)
    have q2 := hcl kN (by omega)
    obtain ⟨u, q3, hu⟩ := hcf kN (by omega)
    obtain ⟨ua, uc, rfl⟩ := hu.shape
    rw [G5.out] at q1
    rw [G6.out] at q2
    have g7 := G7.out
    generalize (hN.f.getD kN []).length = ul at *
    have e8 : ((ul : Int) != mU) = false := by rw [g7]; simp
    have k0 : (0 : Int) ≤ (kN : Int) := by omega
    have k1 : (kN : Int) < ((nlN : Nat) : Int) := by omega
    have k2 : ¬ ((nlN : Nat) : Int) ≤ (kN : Int) := by omega
    clear hcb hcl hcf hu g7
    have c0VM := VM.out.c0
    have c1VM := VM.out.c1
    have c2VM := VM.out.c2
    go_wp2_with fail
    go_ret
    exact ⟨rfl, L.out⟩
  obtain ⟨tn, fn, ht, hf', htn, hfn, hfl, _, _, hget, _⟩ := FS.out rfl
  subst ht
  subst hf'
  rw [NSf.out] at hfl
  obtain rfl : nfH = nfS := hfl.symm
  have HGET := Lib.hid hget; have HFN := Lib.hid hfn
  have hn12 := HSN.out
  clear hget hfn hfl FS
  have c0 := VH.out.c0
  go_wp2_with fail
  clear c0
  go_loopw [74] (fun i wr => ∃ k : Nat, k ≤ nfH ∧ i = .int .i64 (k : Int) ∧ ∃ nd, wr = w4.drewN nd) (fun i _ => nfH - (intOf i).toNat)
  case atStart => exact ⟨0, Nat.zero_le _, rfl, drewN_refl _⟩
  case round =>
    obtain ⟨k, hk, rfl, nd, rfl⟩ := hrel
    by_cases hkl : k < nfH
    · obtain ⟨fb, fo, rfl, hcf⟩ := HA.out.f.at' (by omega)
      obtain ⟨u, quf, huf⟩ := hcf k hkl
      obtain ⟨ua, uc, rfl⟩ := huf.shape
      obtain ⟨sb, so, rfl, hcs⟩ := IG.out.f.at' (by omega)
      obtain ⟨u', qus, hus⟩ := hcs k hkl
      obtain ⟨ua', uc', rfl⟩ := hus.shape
      have hgk : s.f.getD k [] = if k = tn then (h.f.getD k []).set fn z else h.f.getD k [] := by
        rw [HGET.out k]
        by_cases q : k = tn
        · rw [if_pos q, if_pos q, q]
        · rw [if_neg q, if_neg q]
      have hlen : (s.f.getD k []).length = (h.f.getD k []).length := by rw [hgk]; split <;> simp_all
      rw [hlen] at qus hus
      have hr3 := HSR.out k
      have HUF := Lib.hid huf; have HUS := Lib.hid hus; have HGK := Lib.hid hgk
      have c0 : (w4.drewN nd).cell? ⟨w1.heap.size, 0, none⟩ = some (.slice (some ⟨fb, fo, none⟩) nfH qaH) := VH.out.c0
      have cf : (w4.drewN nd).cell? ⟨fb, fo + k, none⟩ = some (.slice ua (h.f.getD k []).length uc) := quf
      have CF := Lib.hid quf; have CS := Lib.hid qus
      have HFNK : Hid (k = tn → fn < (h.f.getD k []).length) := fun q => by rw [q]; exact HFN.out
      have k1 : (k : Int) < (nfH : Int) := by omega
      have k0 : (0 : Int) ≤ (k : Int) := by omega
      clear hcf hcs quf qus huf hus hgk hlen
      generalize h.f.getD k [] = row at *
      generalize s.f.getD k [] = srow at *
      generalize hul : row.length = ul at *
      have HUL := Lib.hid hul; clear hul
      go_wp2_with fail
      clear c0
      go_loopw [83] (fun i wr => ∃ i2 : Nat, i2 ≤ ul ∧ i = .int .i64 (i2 : Int) ∧ ∃ nd, wr = w4.drewN nd) (fun i _ => ul - (intOf i).toNat)
      case atStart => exact ⟨0, Nat.zero_le _, rfl, nd, rfl⟩
      case round =>
        clear cf
        obtain ⟨i, hi, rfl, nd, rfl⟩ := hrel
        by_cases hil : i < ul
        · obtain ⟨rb, ro, rfl, hcr⟩ := HUF.out.at' (by omega)
          have hsl : srow.length = ul := HUS.out.len
          have HSL := Lib.hid hsl; clear hsl
          obtain ⟨tb, to, rfl, hct⟩ := HUS.out.at' (by omega)
          have d0 : (w4.drewN nd).drew.cell? ⟨w1.heap.size, 0, none⟩ = some (.slice (some ⟨fb, fo, none⟩) nfH qaH) := VH.out.c0
          have d1 : (w4.drewN nd).drew.cell? ⟨w2.heap.size, 0, none⟩ = some (.slice (some ⟨sb, so, none⟩) nfH qaG) := VG.out.c0
          have d2 : (w4.drewN nd).drew.cell? ⟨fb, fo + k, none⟩ = some (.slice (some ⟨rb, ro, none⟩) ul uc) := CF.out
          have d3 : (w4.drewN nd).drew.cell? ⟨sb, so + k, none⟩ = some (.slice (some ⟨tb, to, none⟩) ul uc') := CS.out
          have d4 : (w4.drewN nd).drew.cell? ⟨rb, ro + i, none⟩ = some (.int .i64 (row.getD i 0)) := hcr i hil
          have d5 : (w4.drewN nd).drew.cell? ⟨tb, to + i, none⟩ = some (.int .i64 (srow.getD i 0)) := hct i hil
          have hy1 : k = tn → i = fn → srow.getD i 0 = z := fun q1 q2 => by rw [HGK.out, if_pos q1, getD_setI (by rw [HUL.out]; omega), if_pos q2]
          have hy2 : ¬ (k = tn ∧ i = fn) → srow.getD i 0 = row.getD i 0 := fun q => by
            rw [HGK.out]
            by_cases q1 : k = tn
            · rw [if_pos q1, getD_setI (by have := HFNK.out q1; rw [HUL.out]; exact this), if_neg (fun q2 => q ⟨q1, q2⟩)]
            · rw [if_neg q1]
          have HY1 := Lib.hid hy1; have HY2 := Lib.hid hy2
          have i1 : (i : Int) < (ul : Int) := by omega
          have i0 : (0 : Int) ≤ (i : Int) := by omega
          clear hcr hct hy1 hy2
          generalize row.getD i 0 = x at *
          generalize srow.getD i 0 = y at *
          by_cases hkt : k = tn
          · by_cases hif : i = fn
            · have hyz := HY1.out hkt hif
              subst hyz
              subst hkt
              subst hif
              have b1 : ((k : Int) == (k : Int)) = true := by simp
              have b2 : ((k : Int) != (k : Int)) = false := by simp
              have b3 : ((i : Int) == (i : Int)) = true := by simp
              have b4 : ((i : Int) != (i : Int)) = false := by simp
              have b5 : (y != y) = false := by simp
              go_wp2_with fail
              refine wp_region_held_drew (S := (fun w' => w'.cell? ⟨w1.heap.size, 0, none⟩ = some (.slice (some ⟨fb, fo, none⟩) nfH qaH) ∧ w'.cell? ⟨w2.heap.size, 0, none⟩ = some (.slice (some ⟨sb, so, none⟩) nfH qaG) ∧ w'.cell? ⟨fb, fo + k, none⟩ = some (.slice (some ⟨rb, ro, none⟩) ul uc) ∧ w'.cell? ⟨sb, so + k, none⟩ = some (.slice (some ⟨tb, to, none⟩) ul uc') ∧ w'.cell? ⟨rb, ro + i, none⟩ = some (.int .i64 x) ∧ w'.cell? ⟨tb, to + i, none⟩ = some (.int .i64 y))) (by kernel_rfl) (⟨d0, d1, d2, d3, d4, d5⟩) (fun hHeld => ?_)
              refine wpAnyH_take (i := 0) (v := ?va0x1) rfl (by kernel_rfl) (by kernel_rfl) (by kernel_rfl) (fun _ _ _ h => h) (Or.inl ⟨by rfl, ?hy0x1⟩) (by assumption) ?rest0x1
              case hy0x1 => (intro w hSw; (try dsimp only at hSw); go_simp; try with_reducible rfl)
              (try simp only [Act.put, List.getElem_toArray, List.getElem_cons_zero, List.setIfInBounds_toArray, List.set_cons_zero, List.set_cons_succ])
              refine wpAnyH_take (i := 1) (v := ?va1x2) rfl (by kernel_rfl) (by kernel_rfl) (by kernel_rfl) (fun _ _ _ h => h) (Or.inl ⟨by rfl, ?hy1x2⟩) (by assumption) ?rest1x2
              case hy1x2 => (intro w hSw; (try dsimp only at hSw); go_simp; try with_reducible rfl)
              (try simp only [Act.put, List.getElem_toArray, List.getElem_cons_zero, List.getElem_cons_succ, List.setIfInBounds_toArray, List.set_cons_zero, List.set_cons_succ])
              refine wpAnyH_take (i := 2) (v := ?va2x3) rfl (by kernel_rfl) (by kernel_rfl) (by kernel_rfl) (fun _ _ _ h => h) (Or.inl ⟨by rfl, ?hy2x3⟩) (by assumption) ?rest2x3
              case hy2x3 => (intro w hSw; (try dsimp only at hSw); go_simp; try with_reducible rfl)
              (try simp only [Act.put, List.getElem_toArray, List.getElem_cons_zero, List.getElem_cons_succ, List.setIfInBounds_toArray, List.set_cons_zero, List.set_cons_succ])
              refine wpAnyH_take (i := 3) (v := ?va3x4) rfl (by kernel_rfl) (by kernel_rfl) (by kernel_rfl) (fun _ _ _ h => h) (Or.inl ⟨by rfl, ?hy3x4⟩) (by assumption) ?rest3x4
              case hy3x4 => (intro w hSw; (try dsimp only at hSw); go_simp; try with_reducible rfl)
              (try simp only [Act.put, List.getElem_toArray, List.getElem_cons_zero, List.getElem_cons_succ, List.setIfInBounds_toArray, List.set_cons_zero, List.set_cons_succ])
              refine wpAnyH_take (i := 4) (v := ?va4x5) rfl (by kernel_rfl) (by kernel_rfl) (by kernel_rfl) (fun _ _ _ h => h) (Or.inl ⟨by rfl, ?hy4x5⟩) (by assumption) ?rest4x5
              case hy4x5 => (intro w hSw; (try dsimp only at hSw); go_simp; try with_reducible rfl)
              (try simp only [Act.put, List.getElem_toArray, List.getElem_cons_zero, List.getElem_cons_succ, List.setIfInBounds_toArray, List.set_cons_zero, List.set_cons_succ])
              refine wpAnyH_take (i := 5) (v := ?va5x6) rfl (by kernel_rfl) (by kernel_rfl) (by kernel_rfl) (fun _ _ _ h => h) (Or.inl ⟨by rfl, ?hy5x6⟩) (by assumption) ?rest5x6
              case hy5x6 => (intro w hSw; (try dsimp only at hSw); go_simp; try with_reducible rfl)
              (try simp only [Act.put, List.getElem_toArray, List.getElem_cons_zero, List.getElem_cons_succ, List.setIfInBounds_toArray, List.set_cons_zero, List.set_cons_succ])
              refine wpAnyH_take (i := 6) (v := ?va6x7) rfl (by kernel_rfl) (by kernel_rfl) (by kernel_rfl) (fun _ _ _ h => h) (Or.inl ⟨by rfl, ?hy6x7⟩) (by assumption) ?rest6x7
              case hy6x7 => (intro w hSw; (try dsimp only at hSw); go_simp; try with_reducible rfl)
              (try simp only [Act.put, List.getElem_toArray, List.getElem_cons_zero, List.getElem_cons_succ, List.setIfInBounds_toArray, List.set_cons_zero, List.set_cons_succ])
              refine wpAnyH_take (i := 7) (v := ?va7x8) rfl (by kernel_rfl) (by kernel_rfl) (by kernel_rfl) (fun _ _ _ h => h) (Or.inl ⟨by rfl, ?hy7x8⟩) (by assumption) ?rest7x8
              case hy7x8 => (intro w hSw; (try dsimp only at hSw); go_simp; try with_reducible rfl)
              (try simp only [Act.put, List.getElem_toArray, List.getElem_cons_zero, List.getElem_cons_succ, List.setIfInBounds_toArray, List.set_cons_zero, List.set_cons_succ])
              refine wpAnyH_take (i := 8) (v := ?va8x9) rfl (by kernel_rfl) (by kernel_rfl) (by kernel_rfl) (fun _ _ _ h => h) (Or.inl ⟨by rfl, ?hy8x9⟩) (by assumption) ?rest8x9
              case hy8x9 => (intro w hSw; (try dsimp only at hSw); go_simp; try with_reducible rfl)
              (try simp only [Act.put, List.getElem_toArray, List.getElem_cons_zero, List.getElem_cons_succ, List.setIfInBounds_toArray, List.set_cons_zero, List.set_cons_succ])
              refine wpAnyH_take (i := 9) (v := ?va9x10) rfl (by kernel_rfl) (by kernel_rfl) (by kernel_rfl) (fun _ _ _ h => h) (Or.inl ⟨by rfl, ?hy9x10⟩) (by assumption) ?rest9x10
              case hy9x10 => (intro w hSw; (try dsimp only at hSw); go_simp; try with_reducible rfl)
              (try simp only [Act.put, List.getElem_toArray, List.getElem_cons_zero, List.getElem_cons_succ, List.setIfInBounds_toArray, List.set_cons_zero, List.set_cons_succ])
              refine wpAnyH_take (i := 10) (v := ?va10x11) rfl (by kernel_rfl) (by kernel_rfl) (by kernel_rfl) (fun _ _ _ h => h) (Or.inl ⟨by rfl, ?hy10x11⟩) (by assumption) ?rest10x11
              case hy10x11 => (intro w hSw; (try dsimp only at hSw); go_simp; try with_reducible rfl)
              (try simp only [Act.put, List.getElem_toArray, List.getElem_cons_zero, List.getElem_cons_succ, List.setIfInBounds_toArray, List.set_cons_zero, List.set_cons_succ])
              refine wpAnyH_take (i := 11) (v := ?va11x12) rfl (by kernel_rfl) (by kernel_rfl) (by kernel_rfl) (fun _ _ _ h => h) (Or.inl ⟨by rfl, ?hy11x12⟩) (by assumption) ?rest11x12
              case hy11x12 => (intro w hSw; (try dsimp only at hSw); go_simp; try with_reducible rfl)
              (try simp only [Act.put, List.getElem_toArray, List.getElem_cons_zero, List.getElem_cons_succ, List.setIfInBounds_toArray, List.set_cons_zero, List.set_cons_succ])
              refine wpAnyH_take (i := 12) (v := ?va12x13) rfl (by kernel_rfl) (by kernel_rfl) (by kernel_rfl) (fun _ _ _ h => h) (Or.inl ⟨by rfl, ?hy12x13⟩) (by assumption) ?rest12x13
              case hy12x13 => (intro w hSw; (try dsimp only at hSw); go_simp; try with_reducible rfl)
              (try simp only [Act.put, List.getElem_toArray, List.getElem_cons_zero, List.getElem_cons_succ, List.setIfInBounds_toArray, List.set_cons_zero, List.set_cons_succ])
              refine wpAnyH_take (i := 13) (v := ?va13x14) rfl (by kernel_rfl) (by kernel_rfl) (by kernel_rfl) (fun _ _ _ h => h) (Or.inl ⟨by rfl, ?hy13x14⟩) (by assumption) ?rest13x14
              case hy13x14 => (intro w hSw; (try dsimp only at hSw); go_simp; try with_reducible rfl)
              (try simp only [Act.put, List.getElem_toArray, List.getElem_cons_zero, List.getElem_cons_succ, List.setIfInBounds_toArray, List.set_cons_zero, List.set_cons_succ])
              refine wpAnyH_take (i := 14) (v := ?va14x15) rfl (by kernel_rfl) (by kernel_rfl) (by kernel_rfl) (fun _ _ _ h => h) (Or.inl ⟨by rfl, ?hy14x15⟩) (by assumption) ?rest14x15
              case hy14x15 => (intro w hSw; (try dsimp only at hSw); go_simp; try with_reducible rfl)
              (try simp only [Act.put, List.getElem_toArray, List.getElem_cons_zero, List.getElem_cons_succ, List.setIfInBounds_toArray, List.set_cons_zero, List.set_cons_succ])
              refine wpAnyH_take (i := 15) (v := ?va15x16) rfl (by kernel_rfl) (by kernel_rfl) (by kernel_rfl) (fun _ _ _ h => h) (Or.inl ⟨by rfl, ?hy15x16⟩) (by assumption) ?rest15x16
              case hy15x16 => (intro w hSw; (try dsimp only at hSw); go_simp; try with_reducible rfl)
              (try simp only [Act.put, List.getElem_toArray, List.getElem_cons_zero, List.getElem_cons_succ, List.setIfInBounds_toArray, List.set_cons_zero, List.set_cons_succ])
              refine wpAnyH_take (i := 16) (v := ?va16x17) rfl (by kernel_rfl) (by kernel_rfl) (by kernel_rfl) (fun _ _ _ h => h) (Or.inl ⟨by rfl, ?hy16x17⟩) (by assumption) ?rest16x17
              case hy16x17 => (intro w hSw; (try dsimp only at hSw); go_simp; try with_reducible rfl)
              (try simp only [Act.put, List.getElem_toArray, List.getElem_cons_zero, List.getElem_cons_succ, List.setIfInBounds_toArray, List.set_cons_zero, List.set_cons_succ])
              refine wpAnyH_take (i := 17) (v := ?va17x18) rfl (by kernel_rfl) (by kernel_rfl) (by kernel_rfl) (fun _ _ _ h => h) (Or.inl ⟨by rfl, ?hy17x18⟩) (by assumption) ?rest17x18
              case hy17x18 => (intro w hSw; (try dsimp only at hSw); go_simp; try with_reducible rfl)
              (try simp only [Act.put, List.getElem_toArray, List.getElem_cons_zero, List.getElem_cons_succ, List.setIfInBounds_toArray, List.set_cons_zero, List.set_cons_succ])
              refine wpAnyH_take (i := 18) (v := ?va18x19) rfl (by kernel_rfl) (by kernel_rfl) (by kernel_rfl) (fun _ _ _ h => h) (Or.inl ⟨by rfl, ?hy18x19⟩) (by assumption) ?rest18x19
              case hy18x19 => (intro w hSw; (try dsimp only at hSw); go_simp; try with_reducible rfl)
              (try simp only [Act.put, List.getElem_toArray, List.getElem_cons_zero, List.getElem_cons_succ, List.setIfInBounds_toArray, List.set_cons_zero, List.set_cons_succ])
              refine wpAnyH_take (i := 19) (v := ?va19x20) rfl (by kernel_rfl) (by kernel_rfl) (by kernel_rfl) (fun _ _ _ h => h) (Or.inl ⟨by rfl, ?hy19x20⟩) (by assumption) ?rest19x20
              case hy19x20 => (intro w hSw; (try dsimp only at hSw); go_simp; try with_reducible rfl)
              (try simp only [Act.put, List.getElem_toArray, List.getElem_cons_zero, List.getElem_cons_succ, List.setIfInBounds_toArray, List.set_cons_zero, List.set_cons_succ])
              refine wpAnyH_take (i := 20) (v := ?va20x21) rfl (by kernel_rfl) (by kernel_rfl) (by kernel_rfl) (fun _ _ _ h => h) (Or.inl ⟨by rfl, ?hy20x21⟩) (by assumption) ?rest20x21
              case hy20x21 => (intro w hSw; (try dsimp only at hSw); go_simp; try with_reducible rfl)
              (try simp only [Act.put, List.getElem_toArray, List.getElem_cons_zero, List.getElem_cons_succ, List.setIfInBounds_toArray, List.set_cons_zero, List.set_cons_succ])
              refine wpAnyH_take (i := 21) (v := ?va21x22) rfl (by kernel_rfl) (by kernel_rfl) (by kernel_rfl) (fun _ _ _ h => h) (Or.inl ⟨by rfl, ?hy21x22⟩) (by assumption) ?rest21x22
              case hy21x22 => (intro w hSw; (try dsimp only at hSw); go_simp; try with_reducible rfl)
              (try simp only [Act.put, List.getElem_toArray, List.getElem_cons_zero, List.getElem_cons_succ, List.setIfInBounds_toArray, List.set_cons_zero, List.set_cons_succ])
              refine wpAnyH_take (i := 22) (v := ?va22x23) rfl (by kernel_rfl) (by kernel_rfl) (by kernel_rfl) (fun _ _ _ h => h) (Or.inl ⟨by rfl, ?hy22x23⟩) (by assumption) ?rest22x23
              case hy22x23 => (intro w hSw; (try dsimp only at hSw); go_simp; try with_reducible rfl)
              (try simp only [Act.put, List.getElem_toArray, List.getElem_cons_zero, List.getElem_cons_succ, List.setIfInBounds_toArray, List.set_cons_zero, List.set_cons_succ])
              refine wpAnyH_take (i := 23) (v := ?va23x24) rfl (by kernel_rfl) (by kernel_rfl) (by kernel_rfl) (fun _ _ _ h => h) (Or.inl ⟨by rfl, ?hy23x24⟩) (by assumption) ?rest23x24
              case hy23x24 => (intro w hSw; (try dsimp only at hSw); go_simp; try with_reducible rfl)
              (try simp only [Act.put, List.getElem_toArray, List.getElem_cons_zero, List.getElem_cons_succ, List.setIfInBounds_toArray, List.set_cons_zero, List.set_cons_succ])
              refine wpAnyH_take (i := 24) (v := ?va24x25) rfl (by kernel_rfl) (by kernel_rfl) (by kernel_rfl) (fun _ _ _ h => h) (Or.inl ⟨by rfl, ?hy24x25⟩) (by assumption) ?rest24x25
              case hy24x25 => (intro w hSw; (try dsimp only at hSw); go_simp; try with_reducible rfl)
              (try simp only [Act.put, List.getElem_toArray, List.getElem_cons_zero, List.getElem_cons_succ, List.setIfInBounds_toArray, List.set_cons_zero, List.set_cons_succ])
              refine wpAnyH_take (i := 25) (v := ?va25x26) rfl (by kernel_rfl) (by kernel_rfl) (by kernel_rfl) (fun _ _ _ h => h) (Or.inl ⟨by rfl, ?hy25x26⟩) (by assumption) ?rest25x26
              case hy25x26 => (intro w hSw; (try dsimp only at hSw); go_simp; try with_reducible rfl)
              (try simp only [Act.put, List.getElem_toArray, List.getElem_cons_zero, List.getElem_cons_succ, List.setIfInBounds_toArray, List.set_cons_zero, List.set_cons_succ])
              refine wpAnyH_take (i := 26) (v := ?va26x27) rfl (by kernel_rfl) (by kernel_rfl) (by kernel_rfl) (fun _ _ _ h => h) (Or.inl ⟨by rfl, ?hy26x27⟩) (by assumption) ?rest26x27
              case hy26x27 => (intro w hSw; (try dsimp only at hSw); go_simp; try with_reducible rfl)
              (try simp only [Act.put, List.getElem_toArray, List.getElem_cons_zero, List.getElem_cons_succ, List.setIfInBounds_toArray, List.set_cons_zero, List.set_cons_succ])
              refine wpAnyH_take (i := 27) (v := ?va27x28) rfl (by kernel_rfl) (by kernel_rfl) (by kernel_rfl) (fun _ _ _ h => h) (Or.inl ⟨by rfl, ?hy27x28⟩) (by assumption) ?rest27x28
              case hy27x28 => (intro w hSw; (try dsimp only at hSw); go_simp; try with_reducible rfl)
              (try simp only [Act.put, List.getElem_toArray, List.getElem_cons_zero, List.getElem_cons_succ, List.setIfInBounds_toArray, List.set_cons_zero, List.set_cons_succ])
              refine wpAnyH_take (i := 28) (v := ?va28x29) rfl (by kernel_rfl) (by kernel_rfl) (by kernel_rfl) (fun _ _ _ h => h) (Or.inl ⟨by rfl, ?hy28x29⟩) (by assumption) ?rest28x29
              case hy28x29 => (intro w hSw; (try dsimp only at hSw); go_simp; try with_reducible rfl)
              (try simp only [Act.put, List.getElem_toArray, List.getElem_cons_zero, List.getElem_cons_succ, List.setIfInBounds_toArray, List.set_cons_zero, List.set_cons_succ])
              refine wpAnyH_take (i := 29) (v := ?va29x30) rfl (by kernel_rfl) (by kernel_rfl) (by kernel_rfl) (fun _ _ _ h => h) (Or.inl ⟨by rfl, ?hy29x30⟩) (by assumption) ?rest29x30
              case hy29x30 => (intro w hSw; (try dsimp only at hSw); go_simp; try with_reducible rfl)
              (try simp only [Act.put, List.getElem_toArray, List.getElem_cons_zero, List.getElem_cons_succ, List.setIfInBounds_toArray, List.set_cons_zero, List.set_cons_succ])
              refine wpAnyH_take (i := 30) (v := undef) rfl (by kernel_rfl) (by kernel_rfl) (by kernel_rfl) (fun _ _ _ h => h) (Or.inr ⟨by rfl, rfl⟩) (by assumption) ?_
              (try simp only [Act.put, List.getElem_toArray, List.getElem_cons_zero, List.getElem_cons_succ, List.setIfInBounds_toArray, List.set_cons_zero, List.set_cons_succ])
              refine wpAnyH_take (i := 31) (v := undef) rfl (by kernel_rfl) (by kernel_rfl) (by kernel_rfl) (fun _ _ _ h => h) (Or.inr ⟨by rfl, rfl⟩) (by assumption) ?_
              (try simp only [Act.put, List.getElem_toArray, List.getElem_cons_zero, List.getElem_cons_succ, List.setIfInBounds_toArray, List.set_cons_zero, List.set_cons_succ])
              refine wpAnyH_take (i := 32) (v := undef) rfl (by kernel_rfl) (by kernel_rfl) (by kernel_rfl) (fun _ _ _ h => h) (Or.inr ⟨by rfl, rfl⟩) (by assumption) ?_
              (try simp only [Act.put, List.getElem_toArray, List.getElem_cons_zero, List.getElem_cons_succ, List.setIfInBounds_toArray, List.set_cons_zero, List.set_cons_succ])
              refine wpAnyH_take (i := 33) (v := undef) rfl (by kernel_rfl) (by kernel_rfl) (by kernel_rfl) (fun _ _ _ h => h) (Or.inr ⟨by rfl, rfl⟩) (by assumption) ?_
              (try simp only [Act.put, List.getElem_toArray, List.getElem_cons_zero, List.getElem_cons_succ, List.setIfInBounds_toArray, List.set_cons_zero, List.set_cons_succ])
              refine wpAnyH_take (i := 34) (v := undef) rfl (by kernel_rfl) (by kernel_rfl) (by kernel_rfl) (fun _ _ _ h => h) (Or.inr ⟨by rfl, rfl⟩) (by assumption) ?_
              (try simp only [Act.put, List.getElem_toArray, List.getElem_cons_zero, List.getElem_cons_succ, List.setIfInBounds_toArray, List.set_cons_zero, List.set_cons_succ])
              refine wpAnyH_take (i := 35) (v := undef) rfl (by kernel_rfl) (by kernel_rfl) (by kernel_rfl) (fun _ _ _ h => h) (Or.inr ⟨by rfl, rfl⟩) (by assumption) ?_
              (try simp only [Act.put, List.getElem_toArray, List.getElem_cons_zero, List.getElem_cons_succ, List.setIfInBounds_toArray, List.set_cons_zero, List.set_cons_succ])
              refine wpAnyH_take (i := 36) (v := undef) rfl (by kernel_rfl) (by kernel_rfl) (by kernel_rfl) (fun _ _ _ h => h) (Or.inr ⟨by rfl, rfl⟩) (by assumption) ?_
              (try simp only [Act.put, List.getElem_toArray, List.getElem_cons_zero, List.getElem_cons_succ, List.setIfInBounds_toArray, List.set_cons_zero, List.set_cons_succ])
              refine wpAnyH_take (i := 37) (v := undef) rfl (by kernel_rfl) (by kernel_rfl) (by kernel_rfl) (fun _ _ _ h => h) (Or.inr ⟨by rfl, rfl⟩) (by assumption) ?_
              (try simp only [Act.put, List.getElem_toArray, List.getElem_cons_zero, List.getElem_cons_succ, List.setIfInBounds_toArray, List.set_cons_zero, List.set_cons_succ])
              refine wpAnyH_take (i := 38) (v := undef) rfl (by kernel_rfl) (by kernel_rfl) (by kernel_rfl) (fun _ _ _ h => h) (Or.inr ⟨by rfl, rfl⟩) (by assumption) ?_
              (try simp only [Act.put, List.getElem_toArray, List.getElem_cons_zero, List.getElem_cons_succ, List.setIfInBounds_toArray, List.set_cons_zero, List.set_cons_succ])
              refine wpAnyH_take (i := 39) (v := undef) rfl (by kernel_rfl) (by kernel_rfl) (by kernel_rfl) (fun _ _ _ h => h) (Or.inr ⟨by rfl, rfl⟩) (by assumption) ?_
              (try simp only [Act.put, List.getElem_toArray, List.getElem_cons_zero, List.getElem_cons_succ, List.setIfInBounds_toArray, List.set_cons_zero, List.set_cons_succ])
              refine wpAnyH_take (i := 40) (v := undef) rfl (by kernel_rfl) (by kernel_rfl) (by kernel_rfl) (fun _ _ _ h => h) (Or.inr ⟨by rfl, rfl⟩) (by assumption) ?_
              (try simp only [Act.put, List.getElem_toArray, List.getElem_cons_zero, List.getElem_cons_succ, List.setIfInBounds_toArray, List.set_cons_zero, List.set_cons_succ])
              refine wpAnyH_take (i := 41) (v := undef) rfl (by kernel_rfl) (by kernel_rfl) (by kernel_rfl) (fun _ _ _ h => h) (Or.inr ⟨by rfl, rfl⟩) (by assumption) ?_
              (try simp only [Act.put, List.getElem_toArray, List.getElem_cons_zero, List.getElem_cons_succ, List.setIfInBounds_toArray, List.set_cons_zero, List.set_cons_succ])
              refine wpAnyH_take (i := 42) (v := undef) rfl (by kernel_rfl) (by kernel_rfl) (by kernel_rfl) (fun _ _ _ h => h) (Or.inr ⟨by rfl, rfl⟩) (by assumption) ?_
              (try simp only [Act.put, List.getElem_toArray, List.getElem_cons_zero, List.getElem_cons_succ, List.setIfInBounds_toArray, List.set_cons_zero, List.set_cons_succ])
              refine wpAnyH_take (i := 43) (v := undef) rfl (by kernel_rfl) (by kernel_rfl) (by kernel_rfl) (fun _ _ _ h => h) (Or.inr ⟨by rfl, rfl⟩) (by assumption) ?_
              (try simp only [Act.put, List.getElem_toArray, List.getElem_cons_zero, List.getElem_cons_succ, List.setIfInBounds_toArray, List.set_cons_zero, List.set_cons_succ])
              refine wpAnyH_take (i := 44) (v := undef) rfl (by kernel_rfl) (by kernel_rfl) (by kernel_rfl) (fun _ _ _ h => h) (Or.inr ⟨by rfl, rfl⟩) (by assumption) ?_
              (try simp only [Act.put, List.getElem_toArray, List.getElem_cons_zero, List.getElem_cons_succ, List.setIfInBounds_toArray, List.set_cons_zero, List.set_cons_succ])
              refine wpAnyH_take (i := 45) (v := undef) rfl (by kernel_rfl) (by kernel_rfl) (by kernel_rfl) (fun _ _ _ h => h) (Or.inr ⟨by rfl, rfl⟩) (by assumption) ?_
              (try simp only [Act.put, List.getElem_toArray, List.getElem_cons_zero, List.getElem_cons_succ, List.setIfInBounds_toArray, List.set_cons_zero, List.set_cons_succ])
              refine wpAnyH_take (i := 46) (v := undef) rfl (by kernel_rfl) (by kernel_rfl) (by kernel_rfl) (fun _ _ _ h => h) (Or.inr ⟨by rfl, rfl⟩) (by assumption) ?_
              (try simp only [Act.put, List.getElem_toArray, List.getElem_cons_zero, List.getElem_cons_succ, List.setIfInBounds_toArray, List.set_cons_zero, List.set_cons_succ])
              refine wpAnyH_take (i := 47) (v := ?va47x31) rfl (by kernel_rfl) (by kernel_rfl) (by kernel_rfl) (fun _ _ _ h => h) (Or.inl ⟨by rfl, ?hy47x31⟩) (by assumption) ?rest47x31
              case hy47x31 => (intro w hSw; (try dsimp only at hSw); go_simp; try with_reducible rfl)
              (try simp only [Act.put, List.getElem_toArray, List.getElem_cons_zero, List.getElem_cons_succ, List.setIfInBounds_toArray, List.set_cons_zero, List.set_cons_succ])
              refine wpAnyH_take (i := 48) (v := ?va48x32) rfl (by kernel_rfl) (by kernel_rfl) (by kernel_rfl) (fun _ _ _ h => h) (Or.inl ⟨by rfl, ?hy48x32⟩) (by assumption) ?rest48x32
              case hy48x32 => (intro w hSw; (try dsimp only at hSw); go_simp; try with_reducible rfl)
              (try simp only [Act.put, List.getElem_toArray, List.getElem_cons_zero, List.getElem_cons_succ, List.setIfInBounds_toArray, List.set_cons_zero, List.set_cons_succ])
              refine wpAnyH_done (by kernel_rfl) ?_ _
              clear hHeld d0 d1 d2 d3 d4 d5
              go_wp2_with fail
              go_roundw
              case rel => exact ⟨i + 1, by omega, by go_num, nd + 1, rfl⟩
              case measure => simp [intOf]; omega
            · have hyx := HY2.out (fun q => hif q.2)
              subst hyx
              subst hkt
              have b1 : ((k : Int) == (k : Int)) = true := by simp
              have b2 : ((k : Int) != (k : Int)) = false := by simp
              have b3 : ((i : Int) == (fn : Int)) = false := by simp; omega
              have b4 : ((i : Int) != (fn : Int)) = true := by simp; omega
              have b5 : (y != y) = false := by simp
              go_wp2_with fail
              refine wp_region_held_drew (S := (fun w' => w'.cell? ⟨w1.heap.size, 0, none⟩ = some (.slice (some ⟨fb, fo, none⟩) nfH qaH) ∧ w'.cell? ⟨w2.heap.size, 0, none⟩ = some (.slice (some ⟨sb, so, none⟩) nfH qaG) ∧ w'.cell? ⟨fb, fo + k, none⟩ = some (.slice (some ⟨rb, ro, none⟩) ul uc) ∧ w'.cell? ⟨sb, so + k, none⟩ = some (.slice (some ⟨tb, to, none⟩) ul uc') ∧ w'.cell? ⟨rb, ro + i, none⟩ = some (.int .i64 y) ∧ w'.cell? ⟨tb, to + i, none⟩ = some (.int .i64 y))) (by kernel_rfl) (⟨d0, d1, d2, d3, d4, d5⟩) (fun hHeld => ?_)
              refine wpAnyH_take (i := 0) (v := ?va0x33) rfl (by kernel_rfl) (by kernel_rfl) (by kernel_rfl) (fun _ _ _ h => h) (Or.inl ⟨by rfl, ?hy0x33⟩) (by assumption) ?rest0x33
              case hy0x33 => (intro w hSw; (try dsimp only at hSw); go_simp; try with_reducible rfl)
              (try simp only [Act.put, List.getElem_toArray, List.getElem_cons_zero, List.setIfInBounds_toArray, List.set_cons_zero, List.set_cons_succ])
              refine wpAnyH_take (i := 1) (v := ?va1x34) rfl (by kernel_rfl) (by kernel_rfl) (by kernel_rfl) (fun _ _ _ h => h) (Or.inl ⟨by rfl, ?hy1x34⟩) (by assumption) ?rest1x34
              case hy1x34 => (intro w hSw; (try dsimp only at hSw); go_simp; try with_reducible rfl)
              (try simp only [Act.put, List.getElem_toArray, List.getElem_cons_zero, List.getElem_cons_succ, List.setIfInBounds_toArray, List.set_cons_zero, List.set_cons_succ])
              refine wpAnyH_take (i := 2) (v := ?va2x35) rfl (by kernel_rfl) (by kernel_rfl) (by kernel_rfl) (fun _ _ _ h => h) (Or.inl ⟨by rfl, ?hy2x35⟩) (by assumption) ?rest2x35
              case hy2x35 => (intro w hSw; (try dsimp only at hSw); go_simp; try with_reducible rfl)
              (try simp only [Act.put, List.getElem_toArray, List.getElem_cons_zero, List.getElem_cons_succ, List.setIfInBounds_toArray, List.set_cons_zero, List.set_cons_succ])
              refine wpAnyH_take (i := 3) (v := ?va3x36) rfl (by kernel_rfl) (by kernel_rfl) (by kernel_rfl) (fun _ _ _ h => h) (Or.inl ⟨by rfl, ?hy3x36⟩) (by assumption) ?rest3x36
              case hy3x36 => (intro w hSw; (try dsimp only at hSw); go_simp; try with_reducible rfl)
              (try simp only [Act.put, List.getElem_toArray, List.getElem_cons_zero, List.getElem_cons_succ, List.setIfInBounds_toArray, List.set_cons_zero, List.set_cons_succ])
              refine wpAnyH_take (i := 4) (v := ?va4x37) rfl (by kernel_rfl) (by kernel_rfl) (by kernel_rfl) (fun _ _ _ h => h) (Or.inl ⟨by rfl, ?hy4x37⟩) (by assumption) ?rest4x37
              case hy4x37 => (intro w hSw; (try dsimp only at hSw); go_simp; try with_reducible rfl)
              (try simp only [Act.put, List.getElem_toArray, List.getElem_cons_zero, List.getElem_cons_succ, List.setIfInBounds_toArray, List.set_cons_zero, List.set_cons_succ])
              refine wpAnyH_take (i := 5) (v := ?va5x38) rfl (by kernel_rfl) (by kernel_rfl) (by kernel_rfl) (fun _ _ _ h => h) (Or.inl ⟨by rfl, ?hy5x38⟩) (by assumption) ?rest5x38
              case hy5x38 => (intro w hSw; (try dsimp only at hSw); go_simp; try with_reducible rfl)
              (try simp only [Act.put, List.getElem_toArray, List.getElem_cons_zero, List.getElem_cons_succ, List.setIfInBounds_toArray, List.set_cons_zero, List.set_cons_succ])
              refine wpAnyH_take (i := 6) (v := ?va6x39) rfl (by kernel_rfl) (by kernel_rfl) (by kernel_rfl) (fun _ _ _ h => h) (Or.inl ⟨by rfl, ?hy6x39⟩) (by assumption) ?rest6x39
              case hy6x39 => (intro w hSw; (try dsimp only at hSw); go_simp; try with_reducible rfl)
              (try simp only [Act.put, List.getElem_toArray, List.getElem_cons_zero, List.getElem_cons_succ, List.setIfInBounds_toArray, List.set_cons_zero, List.set_cons_succ])
              refine wpAnyH_take (i := 7) (v := ?va7x40) rfl (by kernel_rfl) (by kernel_rfl) (by kernel_rfl) (fun _ _ _ h => h) (Or.inl ⟨by rfl, ?hy7x40⟩) (by assumption) ?rest7x40
              case hy7x40 => (intro w hSw; (try dsimp only at hSw); go_simp; try with_reducible rfl)
              (try simp only [Act.put, List.getElem_toArray, List.getElem_cons_zero, List.getElem_cons_succ, List.setIfInBounds_toArray, List.set_cons_zero, List.set_cons_succ])
              refine wpAnyH_take (i := 8) (v := ?va8x41) rfl (by kernel_rfl) (by kernel_rfl) (by kernel_rfl) (fun _ _ _ h => h) (Or.inl ⟨by rfl, ?hy8x41⟩) (by assumption) ?rest8x41
              case hy8x41 => (intro w hSw; (try dsimp only at hSw); go_simp; try with_reducible rfl)
              (try simp only [Act.put, List.getElem_toArray, List.getElem_cons_zero, List.getElem_cons_succ, List.setIfInBounds_toArray, List.set_cons_zero, List.set_cons_succ])
              refine wpAnyH_take (i := 9) (v := undef) rfl (by kernel_rfl) (by kernel_rfl) (by kernel_rfl) (fun _ _ _ h => h) (Or.inr ⟨by rfl, rfl⟩) (by assumption) ?_
              (try simp only [Act.put, List.getElem_toArray, List.getElem_cons_zero, List.getElem_cons_succ, List.setIfInBounds_toArray, List.set_cons_zero, List.set_cons_succ])
              refine wpAnyH_take (i := 10) (v := undef) rfl (by kernel_rfl) (by kernel_rfl) (by kernel_rfl) (fun _ _ _ h => h) (Or.inr ⟨by rfl, rfl⟩) (by assumption) ?_
              (try simp only [Act.put, List.getElem_toArray, List.getElem_cons_zero, List.getElem_cons_succ, List.setIfInBounds_toArray, List.set_cons_zero, List.set_cons_succ])
              refine wpAnyH_take (i := 11) (v := undef) rfl (by kernel_rfl) (by kernel_rfl) (by kernel_rfl) (fun _ _ _ h => h) (Or.inr ⟨by rfl, rfl⟩) (by assumption) ?_
              (try simp only [Act.put, List.getElem_toArray, List.getElem_cons_zero, List.getElem_cons_succ, List.setIfInBounds_toArray, List.set_cons_zero, List.set_cons_succ])
              refine wpAnyH_take (i := 12) (v := undef) rfl (by kernel_rfl) (by kernel_rfl) (by kernel_rfl) (fun _ _ _ h => h) (Or.inr ⟨by rfl, rfl⟩) (by assumption) ?_
              (try simp only [Act.put, List.getElem_toArray, List.getElem_cons_zero, List.getElem_cons_succ, List.setIfInBounds_toArray, List.set_cons_zero, List.set_cons_succ])
              refine wpAnyH_take (i := 13) (v := undef) rfl (by kernel_rfl) (by kernel_rfl) (by kernel_rfl) (fun _ _ _ h => h) (Or.inr ⟨by rfl, rfl⟩) (by assumption) ?_
              (try simp only [Act.put, List.getElem_toArray, List.getElem_cons_zero, List.getElem_cons_succ, List.setIfInBounds_toArray, List.set_cons_zero, List.set_cons_succ])
              refine wpAnyH_take (i := 14) (v := undef) rfl (by kernel_rfl) (by kernel_rfl) (by kernel_rfl) (fun _ _ _ h => h) (Or.inr ⟨by rfl, rfl⟩) (by assumption) ?_
              (try simp only [Act.put, List.getElem_toArray, List.getElem_cons_zero, List.getElem_cons_succ, List.setIfInBounds_toArray, List.set_cons_zero, List.set_cons_succ])
              refine wpAnyH_take (i := 15) (v := undef) rfl (by kernel_rfl) (by kernel_rfl) (by kernel_rfl) (fun _ _ _ h => h) (Or.inr ⟨by rfl, rfl⟩) (by assumption) ?_
              (try simp only [Act.put, List.getElem_toArray, List.getElem_cons_zero, List.getElem_cons_succ, List.setIfInBounds_toArray, List.set_cons_zero, List.set_cons_succ])
              refine wpAnyH_take (i := 16) (v := undef) rfl (by kernel_rfl) (by kernel_rfl) (by kernel_rfl) (fun _ _ _ h => h) (Or.inr ⟨by rfl, rfl⟩) (by assumption) ?_
              (try simp only [Act.put, List.getElem_toArray, List.getElem_cons_zero, List.getElem_cons_succ, List.setIfInBounds_toArray, List.set_cons_zero, List.set_cons_succ])
              refine wpAnyH_take (i := 17) (v := undef) rfl (by kernel_rfl) (by kernel_rfl) (by kernel_rfl) (fun _ _ _ h => h) (Or.inr ⟨by rfl, rfl⟩) (by assumption) ?_
              (try simp only [Act.put, List.getElem_toArray, List.getElem_cons_zero, List.getElem_cons_succ, List.setIfInBounds_toArray, List.set_cons_zero, List.set_cons_succ])
              refine wpAnyH_take (i := 18) (v := undef) rfl (by kernel_rfl) (by kernel_rfl) (by kernel_rfl) (fun _ _ _ h => h) (Or.inr ⟨by rfl, rfl⟩) (by assumption) ?_
              (try simp only [Act.put, List.getElem_toArray, List.getElem_cons_zero, List.getElem_cons_succ, List.setIfInBounds_toArray, List.set_cons_zero, List.set_cons_succ])
              refine wpAnyH_take (i := 19) (v := ?va19x42) rfl (by kernel_rfl) (by kernel_rfl) (by kernel_rfl) (fun _ _ _ h => h) (Or.inl ⟨by rfl, ?hy19x42⟩) (by assumption) ?rest19x42
              case hy19x42 => (intro w hSw; (try dsimp only at hSw); go_simp; try with_reducible rfl)
              (try simp only [Act.put, List.getElem_toArray, List.getElem_cons_zero, List.getElem_cons_succ, List.setIfInBounds_toArray, List.set_cons_zero, List.set_cons_succ])
              refine wpAnyH_take (i := 20) (v := ?va20x43) rfl (by kernel_rfl) (by kernel_rfl) (by kernel_rfl) (fun _ _ _ h => h) (Or.inl ⟨by rfl, ?hy20x43⟩) (by assumption) ?rest20x43
              case hy20x43 => (intro w hSw; (try dsimp only at hSw); go_simp; try with_reducible rfl)
              (try simp only [Act.put, List.getElem_toArray, List.getElem_cons_zero, List.getElem_cons_succ, List.setIfInBounds_toArray, List.set_cons_zero, List.set_cons_succ])
              refine wpAnyH_take (i := 21) (v := ?va21x44) rfl (by kernel_rfl) (by kernel_rfl) (by kernel_rfl) (fun _ _ _ h => h) (Or.inl ⟨by rfl, ?hy21x44⟩) (by assumption) ?rest21x44
              case hy21x44 => (intro w hSw; (try dsimp only at hSw); go_simp; try with_reducible rfl)
              (try simp only [Act.put, List.getElem_toArray, List.getElem_cons_zero, List.getElem_cons_succ, List.setIfInBounds_toArray, List.set_cons_zero, List.set_cons_succ])
              refine wpAnyH_take (i := 22) (v := ?va22x45) rfl (by kernel_rfl) (by kernel_rfl) (by kernel_rfl) (fun _ _ _ h => h) (Or.inl ⟨by rfl, ?hy22x45⟩) (by assumption) ?rest22x45
              case hy22x45 => (intro w hSw; (try dsimp only at hSw); go_simp; try with_reducible rfl)
              (try simp only [Act.put, List.getElem_toArray, List.getElem_cons_zero, List.getElem_cons_succ, List.setIfInBounds_toArray, List.set_cons_zero, List.set_cons_succ])
              refine wpAnyH_take (i := 23) (v := ?va23x46) rfl (by kernel_rfl) (by kernel_rfl) (by kernel_rfl) (fun _ _ _ h => h) (Or.inl ⟨by rfl, ?hy23x46⟩) (by assumption) ?rest23x46
              case hy23x46 => (intro w hSw; (try dsimp only at hSw); go_simp; try with_reducible rfl)
              (try simp only [Act.put, List.getElem_toArray, List.getElem_cons_zero, List.getElem_cons_succ, List.setIfInBounds_toArray, List.set_cons_zero, List.set_cons_succ])
              refine wpAnyH_take (i := 24) (v := ?va24x47) rfl (by kernel_rfl) (by kernel_rfl) (by kernel_rfl) (fun _ _ _ h => h) (Or.inl ⟨by rfl, ?hy24x47⟩) (by assumption) ?rest24x47
              case hy24x47 => (intro w hSw; (try dsimp only at hSw); go_simp; try with_reducible rfl)
              (try simp only [Act.put, List.getElem_toArray, List.getElem_cons_zero, List.getElem_cons_succ, List.setIfInBounds_toArray, List.set_cons_zero, List.set_cons_succ])
              refine wpAnyH_take (i := 25) (v := ?va25x48) rfl (by kernel_rfl) (by kernel_rfl) (by kernel_rfl) (fun _ _ _ h => h) (Or.inl ⟨by rfl, ?hy25x48⟩) (by assumption) ?rest25x48
              case hy25x48 => (intro w hSw; (try dsimp only at hSw); go_simp; try with_reducible rfl)
              (try simp only [Act.put, List.getElem_toArray, List.getElem_cons_zero, List.getElem_cons_succ, List.setIfInBounds_toArray, List.set_cons_zero, List.set_cons_succ])
              refine wpAnyH_take (i := 26) (v := ?va26x49) rfl (by kernel_rfl) (by kernel_rfl) (by kernel_rfl) (fun _ _ _ h => h) (Or.inl ⟨by rfl, ?hy26x49⟩) (by assumption) ?rest26x49
              case hy26x49 => (intro w hSw; (try dsimp only at hSw); go_simp; try with_reducible rfl)
              (try simp only [Act.put, List.getElem_toArray, List.getElem_cons_zero, List.getElem_cons_succ, List.setIfInBounds_toArray, List.set_cons_zero, List.set_cons_succ])
              refine wpAnyH_take (i := 27) (v := ?va27x50) rfl (by kernel_rfl) (by kernel_rfl) (by kernel_rfl) (fun _ _ _ h => h) (Or.inl ⟨by rfl, ?hy27x50⟩) (by assumption) ?rest27x50
              case hy27x50 => (intro w hSw; (try dsimp only at hSw); go_simp; try with_reducible rfl)
              (try simp only [Act.put, List.getElem_toArray, List.getElem_cons_zero, List.getElem_cons_succ, List.setIfInBounds_toArray, List.set_cons_zero, List.set_cons_succ])
              refine wpAnyH_take (i := 28) (v := ?va28x51) rfl (by kernel_rfl) (by kernel_rfl) (by kernel_rfl) (fun _ _ _ h => h) (Or.inl ⟨by rfl, ?hy28x51⟩) (by assumption) ?rest28x51
              case hy28x51 => (intro w hSw; (try dsimp only at hSw); go_simp; try with_reducible rfl)
              (try simp only [Act.put, List.getElem_toArray, List.getElem_cons_zero, List.getElem_cons_succ, List.setIfInBounds_toArray, List.set_cons_zero, List.set_cons_succ])
              refine wpAnyH_take (i := 29) (v := ?va29x52) rfl (by kernel_rfl) (by kernel_rfl) (by kernel_rfl) (fun _ _ _ h => h) (Or.inl ⟨by rfl, ?hy29x52⟩) (by assumption) ?rest29x52
              case hy29x52 => (intro w hSw; (try dsimp only at hSw); go_simp; try with_reducible rfl)
              (try simp only [Act.put, List.getElem_toArray, List.getElem_cons_zero, List.getElem_cons_succ, List.setIfInBounds_toArray, List.set_cons_zero, List.set_cons_succ])
              refine wpAnyH_take (i := 30) (v := ?va30x53) rfl (by kernel_rfl) (by kernel_rfl) (by kernel_rfl) (fun _ _ _ h => h) (Or.inl ⟨by rfl, ?hy30x53⟩) (by assumption) ?rest30x53
              case hy30x53 => (intro w hSw; (try dsimp only at hSw); go_simp; try with_reducible rfl)
              (try simp only [Act.put, List.getElem_toArray, List.getElem_cons_zero, List.getElem_cons_succ, List.setIfInBounds_toArray, List.set_cons_zero, List.set_cons_succ])
              refine wpAnyH_take (i := 31) (v := ?va31x54) rfl (by kernel_rfl) (by kernel_rfl) (by kernel_rfl) (fun _ _ _ h => h) (Or.inl ⟨by rfl, ?hy31x54⟩) (by assumption) ?rest31x54
              case hy31x54 => (intro w hSw; (try dsimp only at hSw); go_simp; try with_reducible rfl)
              (try simp only [Act.put, List.getElem_toArray, List.getElem_cons_zero, List.getElem_cons_succ, List.setIfInBounds_toArray, List.set_cons_zero, List.set_cons_succ])
              refine wpAnyH_take (i := 32) (v := ?va32x55) rfl (by kernel_rfl) (by kernel_rfl) (by kernel_rfl) (fun _ _ _ h => h) (Or.inl ⟨by rfl, ?hy32x55⟩) (by assumption) ?rest32x55
              case hy32x55 => (intro w hSw; (try dsimp only at hSw); go_simp; try with_reducible rfl)
              (try simp only [Act.put, List.getElem_toArray, List.getElem_cons_zero, List.getElem_cons_succ, List.setIfInBounds_toArray, List.set_cons_zero, List.set_cons_succ])
              refine wpAnyH_take (i := 33) (v := ?va33x56) rfl (by kernel_rfl) (by kernel_rfl) (by kernel_rfl) (fun _ _ _ h => h) (Or.inl ⟨by rfl, ?hy33x56⟩) (by assumption) ?rest33x56
              case hy33x56 => (intro w hSw; (try dsimp only at hSw); go_simp; try with_reducible rfl)
              (try simp only [Act.put, List.getElem_toArray, List.getElem_cons_zero, List.getElem_cons_succ, List.setIfInBounds_toArray, List.set_cons_zero, List.set_cons_succ])
              refine wpAnyH_take (i := 34) (v := ?va34x57) rfl (by kernel_rfl) (by kernel_rfl) (by kernel_rfl) (fun _ _ _ h => h) (Or.inl ⟨by rfl, ?hy34x57⟩) (by assumption) ?rest34x57
              case hy34x57 => (intro w hSw; (try dsimp only at hSw); go_simp; try with_reducible rfl)
              (try simp only [Act.put, List.getElem_toArray, List.getElem_cons_zero, List.getElem_cons_succ, List.setIfInBounds_toArray, List.set_cons_zero, List.set_cons_succ])
              refine wpAnyH_take (i := 35) (v := ?va35x58) rfl (by kernel_rfl) (by kernel_rfl) (by kernel_rfl) (fun _ _ _ h => h) (Or.inl ⟨by rfl, ?hy35x58⟩) (by assumption) ?rest35x58
              case hy35x58 => (intro w hSw; (try dsimp only at hSw); go_simp; try with_reducible rfl)
              (try simp only [Act.put, List.getElem_toArray, List.getElem_cons_zero, List.getElem_cons_succ, List.setIfInBounds_toArray, List.set_cons_zero, List.set_cons_succ])
              refine wpAnyH_take (i := 36) (v := ?va36x59) rfl (by kernel_rfl) (by kernel_rfl) (by kernel_rfl) (fun _ _ _ h => h) (Or.inl ⟨by rfl, ?hy36x59⟩) (by assumption) ?rest36x59
              case hy36x59 => (intro w hSw; (try dsimp only at hSw); go_simp; try with_reducible rfl)
              (try simp only [Act.put, List.getElem_toArray, List.getElem_cons_zero, List.getElem_cons_succ, List.setIfInBounds_toArray, List.set_cons_zero, List.set_cons_succ])
              refine wpAnyH_take (i := 37) (v := ?va37x60) rfl (by kernel_rfl) (by kernel_rfl) (by kernel_rfl) (fun _ _ _ h => h) (Or.inl ⟨by rfl, ?hy37x60⟩) (by assumption) ?rest37x60
              case hy37x60 => (intro w hSw; (try dsimp only at hSw); go_simp; try with_reducible rfl)
              (try simp only [Act.put, List.getElem_toArray, List.getElem_cons_zero, List.getElem_cons_succ, List.setIfInBounds_toArray, List.set_cons_zero, List.set_cons_succ])
              refine wpAnyH_take (i := 38) (v := ?va38x61) rfl (by kernel_rfl) (by kernel_rfl) (by kernel_rfl) (fun _ _ _ h => h) (Or.inl ⟨by rfl, ?hy38x61⟩) (by assumption) ?rest38x61
              case hy38x61 => (intro w hSw; (try dsimp only at hSw); go_simp; try with_reducible rfl)
              (try simp only [Act.put, List.getElem_toArray, List.getElem_cons_zero, List.getElem_cons_succ, List.setIfInBounds_toArray, List.set_cons_zero, List.set_cons_succ])
              refine wpAnyH_take (i := 39) (v := ?va39x62) rfl (by kernel_rfl) (by kernel_rfl) (by kernel_rfl) (fun _ _ _ h => h) (Or.inl ⟨by rfl, ?hy39x62⟩) (by assumption) ?rest39x62
              case hy39x62 => (intro w hSw; (try dsimp only at hSw); go_simp; try with_reducible rfl)
              (try simp only [Act.put, List.getElem_toArray, List.getElem_cons_zero, List.getElem_cons_succ, List.setIfInBounds_toArray, List.set_cons_zero, List.set_cons_succ])
              refine wpAnyH_take (i := 40) (v := ?va40x63) rfl (by kernel_rfl) (by kernel_rfl) (by kernel_rfl) (fun _ _ _ h => h) (Or.inl ⟨by rfl, ?hy40x63⟩) (by assumption) ?rest40x63
              case hy40x63 => (intro w hSw; (try dsimp only at hSw); go_simp; try with_reducible rfl)
              (try simp only [Act.put, List.getElem_toArray, List.getElem_cons_zero, List.getElem_cons_succ, List.setIfInBounds_toArray, List.set_cons_zero, List.set_cons_succ])
              refine wpAnyH_take (i := 41) (v := ?va41x64) rfl (by kernel_rfl) (by kernel_rfl) (by kernel_rfl) (fun _ _ _ h => h) (Or.inl ⟨by rfl, ?hy41x64⟩) (by assumption) ?rest41x64
              case hy41x64 => (intro w hSw; (try dsimp only at hSw); go_simp; try with_reducible rfl)
              (try simp only [Act.put, List.getElem_toArray, List.getElem_cons_zero, List.getElem_cons_succ, List.setIfInBounds_toArray, List.set_cons_zero, List.set_cons_succ])
              refine wpAnyH_take (i := 42) (v := ?va42x65) rfl (by kernel_rfl) (by kernel_rfl) (by kernel_rfl) (fun _ _ _ h => h) (Or.inl ⟨by rfl, ?hy42x65⟩) (by assumption) ?rest42x65
              case hy42x65 => (intro w hSw; (try dsimp only at hSw); go_simp; try with_reducible rfl)
              (try simp only [Act.put, List.getElem_toArray, List.getElem_cons_zero, List.getElem_cons_succ, List.setIfInBounds_toArray, List.set_cons_zero, List.set_cons_succ])
              refine wpAnyH_take (i := 43) (v := ?va43x66) rfl (by kernel_rfl) (by kernel_rfl) (by kernel_rfl) (fun _ _ _ h => h) (Or.inl ⟨by rfl, ?hy43x66⟩) (by assumption) ?rest43x66
              case hy43x66 => (intro w hSw; (try dsimp only at hSw); go_simp; try with_reducible rfl)
              (try simp only [Act.put, List.getElem_toArray, List.getElem_cons_zero, List.getElem_cons_succ, List.setIfInBounds_toArray, List.set_cons_zero, List.set_cons_succ])
              refine wpAnyH_take (i := 44) (v := ?va44x67) rfl (by kernel_rfl) (by kernel_rfl) (by kernel_rfl) (fun _ _ _ h => h) (Or.inl ⟨by rfl, ?hy44x67⟩) (by assumption) ?rest44x67
              case hy44x67 => (intro w hSw; (try dsimp only at hSw); go_simp; try with_reducible rfl)
              (try simp only [Act.put, List.getElem_toArray, List.getElem_cons_zero, List.getElem_cons_succ, List.setIfInBounds_toArray, List.set_cons_zero, List.set_cons_succ])
              refine wpAnyH_take (i := 45) (v := ?va45x68) rfl (by kernel_rfl) (by kernel_rfl) (by kernel_rfl) (fun _ _ _ h => h) (Or.inl ⟨by rfl, ?hy45x68⟩) (by assumption) ?rest45x68
              case hy45x68 => (intro w hSw; (try dsimp only at hSw); go_simp; try with_reducible rfl)
              (try simp only [Act.put, List.getElem_toArray, List.getElem_cons_zero, List.getElem_cons_succ, List.setIfInBounds_toArray, List.set_cons_zero, List.set_cons_succ])
              refine wpAnyH_take (i := 46) (v := ?va46x69) rfl (by kernel_rfl) (by kernel_rfl) (by kernel_rfl) (fun _ _ _ h => h) (Or.inl ⟨by rfl, ?hy46x69⟩) (by assumption) ?rest46x69
              case hy46x69 => (intro w hSw; (try dsimp only at hSw); go_simp; try with_reducible rfl)
              (try simp only [Act.put, List.getElem_toArray, List.getElem_cons_zero, List.getElem_cons_succ, List.setIfInBounds_toArray, List.set_cons_zero, List.set_cons_succ])
              refine wpAnyH_take (i := 47) (v := ?va47x70) rfl (by kernel_rfl) (by kernel_rfl) (by kernel_rfl) (fun _ _ _ h => h) (Or.inl ⟨by rfl, ?hy47x70⟩) (by assumption) ?rest47x70
              case hy47x70 => (intro w hSw; (try dsimp only at hSw); go_simp; try with_reducible rfl)
              (try simp only [Act.put, List.getElem_toArray, List.getElem_cons_zero, List.getElem_cons_succ, List.setIfInBounds_toArray, List.set_cons_zero, List.set_cons_succ])
              refine wpAnyH_take (i := 48) (v := ?va48x71) rfl (by kernel_rfl) (by kernel_rfl) (by kernel_rfl) (fun _ _ _ h => h) (Or.inl ⟨by rfl, ?hy48x71⟩) (by assumption) ?rest48x71
              case hy48x71 => (intro w hSw; (try dsimp only at hSw); go_simp; try with_reducible rfl)
              (try simp only [Act.put, List.getElem_toArray, List.getElem_cons_zero, List.getElem_cons_succ, List.setIfInBounds_toArray, List.set_cons_zero, List.set_cons_succ])
              refine wpAnyH_done (by kernel_rfl) ?_ _
              clear hHeld d0 d1 d2 d3 d4 d5
              go_wp2_with fail
              go_roundw
              case rel => exact ⟨i + 1, by omega, by go_num, nd + 1, rfl⟩
              case measure => simp [intOf]; omega
          · have hyx := HY2.out (fun q => hkt q.1)
            subst hyx
            have b1 : ((k : Int) == (tn : Int)) = false := by simp; omega
            have b2 : ((k : Int) != (tn : Int)) = true := by simp; omega
            have b5 : (y != y) = false := by simp
            go_wp2_with fail
            refine wp_region_held_drew (S := (fun w' => w'.cell? ⟨w1.heap.size, 0, none⟩ = some (.slice (some ⟨fb, fo, none⟩) nfH qaH) ∧ w'.cell? ⟨w2.heap.size, 0, none⟩ = some (.slice (some ⟨sb, so, none⟩) nfH qaG) ∧ w'.cell? ⟨fb, fo + k, none⟩ = some (.slice (some ⟨rb, ro, none⟩) ul uc) ∧ w'.cell? ⟨sb, so + k, none⟩ = some (.slice (some ⟨tb, to, none⟩) ul uc') ∧ w'.cell? ⟨rb, ro + i, none⟩ = some (.int .i64 y) ∧ w'.cell? ⟨tb, to + i, none⟩ = some (.int .i64 y))) (by kernel_rfl) (⟨d0, d1, d2, d3, d4, d5⟩) (fun hHeld => ?_)
            refine wpAnyH_take (i := 0) (v := ?va0x72) rfl (by kernel_rfl) (by kernel_rfl) (by kernel_rfl) (fun _ _ _ h => h) (Or.inl ⟨by rfl, ?hy0x72⟩) (by assumption) ?rest0x72
            case hy0x72 => (intro w hSw; (try dsimp only at hSw); go_simp; try with_reducible rfl)
            (try simp only [Act.put, List.getElem_toArray, List.getElem_cons_zero, List.setIfInBounds_toArray, List.set_cons_zero, List.set_cons_succ])
            refine wpAnyH_take (i := 1) (v := ?va1x73) rfl (by kernel_rfl) (by kernel_rfl) (by kernel_rfl) (fun _ _ _ h => h) (Or.inl ⟨by rfl, ?hy1x73⟩) (by assumption) ?rest1x73
            case hy1x73 => (intro w hSw; (try dsimp only at hSw); go_simp; try with_reducible rfl)
            (try simp only [Act.put, List.getElem_toArray, List.getElem_cons_zero, List.getElem_cons_succ, List.setIfInBounds_toArray, List.set_cons_zero, List.set_cons_succ])
            refine wpAnyH_take (i := 2) (v := ?va2x74) rfl (by kernel_rfl) (by kernel_rfl) (by kernel_rfl) (fun _ _ _ h => h) (Or.inl ⟨by rfl, ?hy2x74⟩) (by assumption) ?rest2x74
            case hy2x74 => (intro w hSw; (try dsimp only at hSw); go_simp; try with_reducible rfl)
            (try simp only [Act.put, List.getElem_toArray, List.getElem_cons_zero, List.getElem_cons_succ, List.setIfInBounds_toArray, List.set_cons_zero, List.set_cons_succ])
            refine wpAnyH_take (i := 3) (v := ?va3x75) rfl (by kernel_rfl) (by kernel_rfl) (by kernel_rfl) (fun _ _ _ h => h) (Or.inl ⟨by rfl, ?hy3x75⟩) (by assumption) ?rest3x75
            case hy3x75 => (intro w hSw; (try dsimp only at hSw); go_simp; try with_reducible rfl)
            (try simp only [Act.put, List.getElem_toArray, List.getElem_cons_zero, List.getElem_cons_succ, List.setIfInBounds_toArray, List.set_cons_zero, List.set_cons_succ])
            refine wpAnyH_take (i := 4) (v := undef) rfl (by kernel_rfl) (by kernel_rfl) (by kernel_rfl) (fun _ _ _ h => h) (Or.inr ⟨by rfl, rfl⟩) (by assumption) ?_
            (try simp only [Act.put, List.getElem_toArray, List.getElem_cons_zero, List.getElem_cons_succ, List.setIfInBounds_toArray, List.set_cons_zero, List.set_cons_succ])
            refine wpAnyH_take (i := 5) (v := undef) rfl (by kernel_rfl) (by kernel_rfl) (by kernel_rfl) (fun _ _ _ h => h) (Or.inr ⟨by rfl, rfl⟩) (by assumption) ?_
            (try simp only [Act.put, List.getElem_toArray, List.getElem_cons_zero, List.getElem_cons_succ, List.setIfInBounds_toArray, List.set_cons_zero, List.set_cons_succ])
            refine wpAnyH_take (i := 6) (v := undef) rfl (by kernel_rfl) (by kernel_rfl) (by kernel_rfl) (fun _ _ _ h => h) (Or.inr ⟨by rfl, rfl⟩) (by assumption) ?_
            (try simp only [Act.put, List.getElem_toArray, List.getElem_cons_zero, List.getElem_cons_succ, List.setIfInBounds_toArray, List.set_cons_zero, List.set_cons_succ])
            refine wpAnyH_take (i := 7) (v := ?va7x76) rfl (by kernel_rfl) (by kernel_rfl) (by kernel_rfl) (fun _ _ _ h => h) (Or.inl ⟨by rfl, ?hy7x76⟩) (by assumption) ?rest7x76
            case hy7x76 => (intro w hSw; (try dsimp only at hSw); go_simp; try with_reducible rfl)
            (try simp only [Act.put, List.getElem_toArray, List.getElem_cons_zero, List.getElem_cons_succ, List.setIfInBounds_toArray, List.set_cons_zero, List.set_cons_succ])
            refine wpAnyH_take (i := 8) (v := ?va8x77) rfl (by kernel_rfl) (by kernel_rfl) (by kernel_rfl) (fun _ _ _ h => h) (Or.inl ⟨by rfl, ?hy8x77⟩) (by assumption) ?rest8x77
            case hy8x77 => (intro w hSw; (try dsimp only at hSw); go_simp; try with_reducible rfl)
            (try simp only [Act.put, List.getElem_toArray, List.getElem_cons_zero, List.getElem_cons_succ, List.setIfInBounds_toArray, List.set_cons_zero, List.set_cons_succ])
            refine wpAnyH_take (i := 9) (v := undef) rfl (by kernel_rfl) (by kernel_rfl) (by kernel_rfl) (fun _ _ _ h => h) (Or.inr ⟨by rfl, rfl⟩) (by assumption) ?_
            (try simp only [Act.put, List.getElem_toArray, List.getElem_cons_zero, List.getElem_cons_succ, List.setIfInBounds_toArray, List.set_cons_zero, List.set_cons_succ])
            refine wpAnyH_take (i := 10) (v := undef) rfl (by kernel_rfl) (by kernel_rfl) (by kernel_rfl) (fun _ _ _ h => h) (Or.inr ⟨by rfl, rfl⟩) (by assumption) ?_
            (try simp only [Act.put, List.getElem_toArray, List.getElem_cons_zero, List.getElem_cons_succ, List.setIfInBounds_toArray, List.set_cons_zero, List.set_cons_succ])
            refine wpAnyH_take (i := 11) (v := undef) rfl (by kernel_rfl) (by kernel_rfl) (by kernel_rfl) (fun _ _ _ h => h) (Or.inr ⟨by rfl, rfl⟩) (by assumption) ?_
            (try simp only [Act.put, List.getElem_toArray, List.getElem_cons_zero, List.getElem_cons_succ, List.setIfInBounds_toArray, List.set_cons_zero, List.set_cons_succ])
            refine wpAnyH_take (i := 12) (v := undef) rfl (by kernel_rfl) (by kernel_rfl) (by kernel_rfl) (fun _ _ _ h => h) (Or.inr ⟨by rfl, rfl⟩) (by assumption) ?_
            (try simp only [Act.put, List.getElem_toArray, List.getElem_cons_zero, List.getElem_cons_succ, List.setIfInBounds_toArray, List.set_cons_zero, List.set_cons_succ])
            refine wpAnyH_take (i := 13) (v := undef) rfl (by kernel_rfl) (by kernel_rfl) (by kernel_rfl) (fun _ _ _ h => h) (Or.inr ⟨by rfl, rfl⟩) (by assumption) ?_
            (try simp only [Act.put, List.getElem_toArray, List.getElem_cons_zero, List.getElem_cons_succ, List.setIfInBounds_toArray, List.set_cons_zero, List.set_cons_succ])
            refine wpAnyH_take (i := 14) (v := undef) rfl (by kernel_rfl) (by kernel_rfl) (by kernel_rfl) (fun _ _ _ h => h) (Or.inr ⟨by rfl, rfl⟩) (by assumption) ?_
            (try simp only [Act.put, List.getElem_toArray, List.getElem_cons_zero, List.getElem_cons_succ, List.setIfInBounds_toArray, List.set_cons_zero, List.set_cons_succ])
            refine wpAnyH_take (i := 15) (v := undef) rfl (by kernel_rfl) (by kernel_rfl) (by kernel_rfl) (fun _ _ _ h => h) (Or.inr ⟨by rfl, rfl⟩) (by assumption) ?_
            (try simp only [Act.put, List.getElem_toArray, List.getElem_cons_zero, List.getElem_cons_succ, List.setIfInBounds_toArray, List.set_cons_zero, List.set_cons_succ])
            refine wpAnyH_take (i := 16) (v := undef) rfl (by kernel_rfl) (by kernel_rfl) (by kernel_rfl) (fun _ _ _ h => h) (Or.inr ⟨by rfl, rfl⟩) (by assumption) ?_
            (try simp only [Act.put, List.getElem_toArray, List.getElem_cons_zero, List.getElem_cons_succ, List.setIfInBounds_toArray, List.set_cons_zero, List.set_cons_succ])
            refine wpAnyH_take (i := 17) (v := undef) rfl (by kernel_rfl) (by kernel_rfl) (by kernel_rfl) (fun _ _ _ h => h) (Or.inr ⟨by rfl, rfl⟩) (by assumption) ?_
            (try simp only [Act.put, List.getElem_toArray, List.getElem_cons_zero, List.getElem_cons_succ, List.setIfInBounds_toArray, List.set_cons_zero, List.set_cons_succ])
            refine wpAnyH_take (i := 18) (v := undef) rfl (by kernel_rfl) (by kernel_rfl) (by kernel_rfl) (fun _ _ _ h => h) (Or.inr ⟨by rfl, rfl⟩) (by assumption) ?_
            (try simp only [Act.put, List.getElem_toArray, List.getElem_cons_zero, List.getElem_cons_succ, List.setIfInBounds_toArray, List.set_cons_zero, List.set_cons_succ])
            refine wpAnyH_take (i := 19) (v := ?va19x78) rfl (by kernel_rfl) (by kernel_rfl) (by kernel_rfl) (fun _ _ _ h => h) (Or.inl ⟨by rfl, ?hy19x78⟩) (by assumption) ?rest19x78
            case hy19x78 => (intro w hSw; (try dsimp only at hSw); go_simp; try with_reducible rfl)
            (try simp only [Act.put, List.getElem_toArray, List.getElem_cons_zero, List.getElem_cons_succ, List.setIfInBounds_toArray, List.set_cons_zero, List.set_cons_succ])
            refine wpAnyH_take (i := 20) (v := ?va20x79) rfl (by kernel_rfl) (by kernel_rfl) (by kernel_rfl) (fun _ _ _ h => h) (Or.inl ⟨by rfl, ?hy20x79⟩) (by assumption) ?rest20x79
            case hy20x79 => (intro w hSw; (try dsimp only at hSw); go_simp; try with_reducible rfl)
            (try simp only [Act.put, List.getElem_toArray, List.getElem_cons_zero, List.getElem_cons_succ, List.setIfInBounds_toArray, List.set_cons_zero, List.set_cons_succ])
            refine wpAnyH_take (i := 21) (v := ?va21x80) rfl (by kernel_rfl) (by kernel_rfl) (by kernel_rfl) (fun _ _ _ h => h) (Or.inl ⟨by rfl, ?hy21x80⟩) (by assumption) ?rest21x80
            case hy21x80 => (intro w hSw; (try dsimp only at hSw); go_simp; try with_reducible rfl)
            (try simp only [Act.put, List.getElem_toArray, List.getElem_cons_zero, List.getElem_cons_succ, List.setIfInBounds_toArray, List.set_cons_zero, List.set_cons_succ])
            refine wpAnyH_take (i := 22) (v := ?va22x81) rfl (by kernel_rfl) (by kernel_rfl) (by kernel_rfl) (fun _ _ _ h => h) (Or.inl ⟨by rfl, ?hy22x81⟩) (by assumption) ?rest22x81
            case hy22x81 => (intro w hSw; (try dsimp only at hSw); go_simp; try with_reducible rfl)
            (try simp only [Act.put, List.getElem_toArray, List.getElem_cons_zero, List.getElem_cons_succ, List.setIfInBounds_toArray, List.set_cons_zero, List.set_cons_succ])
            refine wpAnyH_take (i := 23) (v := ?va23x82) rfl (by kernel_rfl) (by kernel_rfl) (by kernel_rfl) (fun _ _ _ h => h) (Or.inl ⟨by rfl, ?hy23x82⟩) (by assumption) ?rest23x82
            case hy23x82 => (intro w hSw; (try dsimp only at hSw); go_simp; try with_reducible rfl)
            (try simp only [Act.put, List.getElem_toArray, List.getElem_cons_zero, List.getElem_cons_succ, List.setIfInBounds_toArray, List.set_cons_zero, List.set_cons_succ])
            refine wpAnyH_take (i := 24) (v := ?va24x83) rfl (by kernel_rfl) (by kernel_rfl) (by kernel_rfl) (fun _ _ _ h => h) (Or.inl ⟨by rfl, ?hy24x83⟩) (by assumption) ?rest24x83
            case hy24x83 => (intro w hSw; (try dsimp only at hSw); go_simp; try with_reducible rfl)
            (try simp only [Act.put, List.getElem_toArray, List.getElem_cons_zero, List.getElem_cons_succ, List.setIfInBounds_toArray, List.set_cons_zero, List.set_cons_succ])
            refine wpAnyH_take (i := 25) (v := undef) rfl (by kernel_rfl) (by kernel_rfl) (by kernel_rfl) (fun _ _ _ h => h) (Or.inr ⟨by rfl, rfl⟩) (by assumption) ?_
            (try simp only [Act.put, List.getElem_toArray, List.getElem_cons_zero, List.getElem_cons_succ, List.setIfInBounds_toArray, List.set_cons_zero, List.set_cons_succ])
            refine wpAnyH_take (i := 26) (v := undef) rfl (by kernel_rfl) (by kernel_rfl) (by kernel_rfl) (fun _ _ _ h => h) (Or.inr ⟨by rfl, rfl⟩) (by assumption) ?_
            (try simp only [Act.put, List.getElem_toArray, List.getElem_cons_zero, List.getElem_cons_succ, List.setIfInBounds_toArray, List.set_cons_zero, List.set_cons_succ])
            refine wpAnyH_take (i := 27) (v := undef) rfl (by kernel_rfl) (by kernel_rfl) (by kernel_rfl) (fun _ _ _ h => h) (Or.inr ⟨by rfl, rfl⟩) (by assumption) ?_
            (try simp only [Act.put, List.getElem_toArray, List.getElem_cons_zero, List.getElem_cons_succ, List.setIfInBounds_toArray, List.set_cons_zero, List.set_cons_succ])
            refine wpAnyH_take (i := 28) (v := ?va28x84) rfl (by kernel_rfl) (by kernel_rfl) (by kernel_rfl) (fun _ _ _ h => h) (Or.inl ⟨by rfl, ?hy28x84⟩) (by assumption) ?rest28x84
            case hy28x84 => (intro w hSw; (try dsimp only at hSw); go_simp; try with_reducible rfl)
            (try simp only [Act.put, List.getElem_toArray, List.getElem_cons_zero, List.getElem_cons_succ, List.setIfInBounds_toArray, List.set_cons_zero, List.set_cons_succ])
            refine wpAnyH_take (i := 29) (v := ?va29x85) rfl (by kernel_rfl) (by kernel_rfl) (by kernel_rfl) (fun _ _ _ h => h) (Or.inl ⟨by rfl, ?hy29x85⟩) (by assumption) ?rest29x85
            case hy29x85 => (intro w hSw; (try dsimp only at hSw); go_simp; try with_reducible rfl)
            (try simp only [Act.put, List.getElem_toArray, List.getElem_cons_zero, List.getElem_cons_succ, List.setIfInBounds_toArray, List.set_cons_zero, List.set_cons_succ])
            refine wpAnyH_take (i := 30) (v := ?va30x86) rfl (by kernel_rfl) (by kernel_rfl) (by kernel_rfl) (fun _ _ _ h => h) (Or.inl ⟨by rfl, ?hy30x86⟩) (by assumption) ?rest30x86
            case hy30x86 => (intro w hSw; (try dsimp only at hSw); go_simp; try with_reducible rfl)
            (try simp only [Act.put, List.getElem_toArray, List.getElem_cons_zero, List.getElem_cons_succ, List.setIfInBounds_toArray, List.set_cons_zero, List.set_cons_succ])
            refine wpAnyH_take (i := 31) (v := ?va31x87) rfl (by kernel_rfl) (by kernel_rfl) (by kernel_rfl) (fun _ _ _ h => h) (Or.inl ⟨by rfl, ?hy31x87⟩) (by assumption) ?rest31x87
            case hy31x87 => (intro w hSw; (try dsimp only at hSw); go_simp; try with_reducible rfl)
            (try simp only [Act.put, List.getElem_toArray, List.getElem_cons_zero, List.getElem_cons_succ, List.setIfInBounds_toArray, List.set_cons_zero, List.set_cons_succ])
            refine wpAnyH_take (i := 32) (v := ?va32x88) rfl (by kernel_rfl) (by kernel_rfl) (by kernel_rfl) (fun _ _ _ h => h) (Or.inl ⟨by rfl, ?hy32x88⟩) (by assumption) ?rest32x88
            case hy32x88 => (intro w hSw; (try dsimp only at hSw); go_simp; try with_reducible rfl)
            (try simp only [Act.put, List.getElem_toArray, List.getElem_cons_zero, List.getElem_cons_succ, List.setIfInBounds_toArray, List.set_cons_zero, List.set_cons_succ])
            refine wpAnyH_take (i := 33) (v := ?va33x89) rfl (by kernel_rfl) (by kernel_rfl) (by kernel_rfl) (fun _ _ _ h => h) (Or.inl ⟨by rfl, ?hy33x89⟩) (by assumption) ?rest33x89
            case hy33x89 => (intro w hSw; (try dsimp only at hSw); go_simp; try with_reducible rfl)
            (try simp only [Act.put, List.getElem_toArray, List.getElem_cons_zero, List.getElem_cons_succ, List.setIfInBounds_toArray, List.set_cons_zero, List.set_cons_succ])
            refine wpAnyH_take (i := 34) (v := ?va34x90) rfl (by kernel_rfl) (by kernel_rfl) (by kernel_rfl) (fun _ _ _ h => h) (Or.inl ⟨by rfl, ?hy34x90⟩) (by assumption) ?rest34x90
            case hy34x90 => (intro w hSw; (try dsimp only at hSw); go_simp; try with_reducible rfl)
            (try simp only [Act.put, List.getElem_toArray, List.getElem_cons_zero, List.getElem_cons_succ, List.setIfInBounds_toArray, List.set_cons_zero, List.set_cons_succ])
            refine wpAnyH_take (i := 35) (v := ?va35x91) rfl (by kernel_rfl) (by kernel_rfl) (by kernel_rfl) (fun _ _ _ h => h) (Or.inl ⟨by rfl, ?hy35x91⟩) (by assumption) ?rest35x91
            case hy35x91 => (intro w hSw; (try dsimp only at hSw); go_simp; try with_reducible rfl)
            (try simp only [Act.put, List.getElem_toArray, List.getElem_cons_zero, List.getElem_cons_succ, List.setIfInBounds_toArray, List.set_cons_zero, List.set_cons_succ])
            refine wpAnyH_take (i := 36) (v := ?va36x92) rfl (by kernel_rfl) (by kernel_rfl) (by kernel_rfl) (fun _ _ _ h => h) (Or.inl ⟨by rfl, ?hy36x92⟩) (by assumption) ?rest36x92
            case hy36x92 => (intro w hSw; (try dsimp only at hSw); go_simp; try with_reducible rfl)
            (try simp only [Act.put, List.getElem_toArray, List.getElem_cons_zero, List.getElem_cons_succ, List.setIfInBounds_toArray, List.set_cons_zero, List.set_cons_succ])
            refine wpAnyH_take (i := 37) (v := ?va37x93) rfl (by kernel_rfl) (by kernel_rfl) (by kernel_rfl) (fun _ _ _ h => h) (Or.inl ⟨by rfl, ?hy37x93⟩) (by assumption) ?rest37x93
            case hy37x93 => (intro w hSw; (try dsimp only at hSw); go_simp; try with_reducible rfl)
            (try simp only [Act.put, List.getElem_toArray, List.getElem_cons_zero, List.getElem_cons_succ, List.setIfInBounds_toArray, List.set_cons_zero, List.set_cons_succ])
            refine wpAnyH_take (i := 38) (v := ?va38x94) rfl (by kernel_rfl) (by kernel_rfl) (by kernel_rfl) (fun _ _ _ h => h) (Or.inl ⟨by rfl, ?hy38x94⟩) (by assumption) ?rest38x94
            case hy38x94 => (intro w hSw; (try dsimp only at hSw); go_simp; try with_reducible rfl)
            (try simp only [Act.put, List.getElem_toArray, List.getElem_cons_zero, List.getElem_cons_succ, List.setIfInBounds_toArray, List.set_cons_zero, List.set_cons_succ])
            refine wpAnyH_take (i := 39) (v := ?va39x95) rfl (by kernel_rfl) (by kernel_rfl) (by kernel_rfl) (fun _ _ _ h => h) (Or.inl ⟨by rfl, ?hy39x95⟩) (by assumption) ?rest39x95
            case hy39x95 => (intro w hSw; (try dsimp only at hSw); go_simp; try with_reducible rfl)
            (try simp only [Act.put, List.getElem_toArray, List.getElem_cons_zero, List.getElem_cons_succ, List.setIfInBounds_toArray, List.set_cons_zero, List.set_cons_succ])
            refine wpAnyH_take (i := 40) (v := ?va40x96) rfl (by kernel_rfl) (by kernel_rfl) (by kernel_rfl) (fun _ _ _ h => h) (Or.inl ⟨by rfl, ?hy40x96⟩) (by assumption) ?rest40x96
            case hy40x96 => (intro w hSw; (try dsimp only at hSw); go_simp; try with_reducible rfl)
            (try simp only [Act.put, List.getElem_toArray, List.getElem_cons_zero, List.getElem_cons_succ, List.setIfInBounds_toArray, List.set_cons_zero, List.set_cons_succ])
            refine wpAnyH_take (i := 41) (v := ?va41x97) rfl (by kernel_rfl) (by kernel_rfl) (by kernel_rfl) (fun _ _ _ h => h) (Or.inl ⟨by rfl, ?hy41x97⟩) (by assumption) ?rest41x97
            case hy41x97 => (intro w hSw; (try dsimp only at hSw); go_simp; try with_reducible rfl)
            (try simp only [Act.put, List.getElem_toArray, List.getElem_cons_zero, List.getElem_cons_succ, List.setIfInBounds_toArray, List.set_cons_zero, List.set_cons_succ])
            refine wpAnyH_take (i := 42) (v := ?va42x98) rfl (by kernel_rfl) (by kernel_rfl) (by kernel_rfl) (fun _ _ _ h => h) (Or.inl ⟨by rfl, ?hy42x98⟩) (by assumption) ?rest42x98
            case hy42x98 => (intro w hSw; (try dsimp only at hSw); go_simp; try with_reducible rfl)
            (try simp only [Act.put, List.getElem_toArray, List.getElem_cons_zero, List.getElem_cons_succ, List.setIfInBounds_toArray, List.set_cons_zero, List.set_cons_succ])
            refine wpAnyH_take (i := 43) (v := ?va43x99) rfl (by kernel_rfl) (by kernel_rfl) (by kernel_rfl) (fun _ _ _ h => h) (Or.inl ⟨by rfl, ?hy43x99⟩) (by assumption) ?rest43x99
            case hy43x99 => (intro w hSw; (try dsimp only at hSw); go_simp; try with_reducible rfl)
            (try simp only [Act.put, List.getElem_toArray, List.getElem_cons_zero, List.getElem_cons_succ, List.setIfInBounds_toArray, List.set_cons_zero, List.set_cons_succ])
            refine wpAnyH_take (i := 44) (v := ?va44x100) rfl (by kernel_rfl) (by kernel_rfl) (by kernel_rfl) (fun _ _ _ h => h) (Or.inl ⟨by rfl, ?hy44x100⟩) (by assumption) ?rest44x100
            case hy44x100 => (intro w hSw; (try dsimp only at hSw); go_simp; try with_reducible rfl)
            (try simp only [Act.put, List.getElem_toArray, List.getElem_cons_zero, List.getElem_cons_succ, List.setIfInBounds_toArray, List.set_cons_zero, List.set_cons_succ])
            refine wpAnyH_take (i := 45) (v := ?va45x101) rfl (by kernel_rfl) (by kernel_rfl) (by kernel_rfl) (fun _ _ _ h => h) (Or.inl ⟨by rfl, ?hy45x101⟩) (by assumption) ?rest45x101
            case hy45x101 => (intro w hSw; (try dsimp only at hSw); go_simp; try with_reducible rfl)
            (try simp only [Act.put, List.getElem_toArray, List.getElem_cons_zero, List.getElem_cons_succ, List.setIfInBounds_toArray, List.set_cons_zero, List.set_cons_succ])
            refine wpAnyH_take (i := 46) (v := ?va46x102) rfl (by kernel_rfl) (by kernel_rfl) (by kernel_rfl) (fun _ _ _ h => h) (Or.inl ⟨by rfl, ?hy46x102⟩) (by assumption) ?rest46x102
            case hy46x102 => (intro w hSw; (try dsimp only at hSw); go_simp; try with_reducible rfl)
            (try simp only [Act.put, List.getElem_toArray, List.getElem_cons_zero, List.getElem_cons_succ, List.setIfInBounds_toArray, List.set_cons_zero, List.set_cons_succ])
            refine wpAnyH_take (i := 47) (v := ?va47x103) rfl (by kernel_rfl) (by kernel_rfl) (by kernel_rfl) (fun _ _ _ h => h) (Or.inl ⟨by rfl, ?hy47x103⟩) (by assumption) ?rest47x103
            case hy47x103 => (intro w hSw; (try dsimp only at hSw); go_simp; try with_reducible rfl)
            (try simp only [Act.put, List.getElem_toArray, List.getElem_cons_zero, List.getElem_cons_succ, List.setIfInBounds_toArray, List.set_cons_zero, List.set_cons_succ])
            refine wpAnyH_take (i := 48) (v := ?va48x104) rfl (by kernel_rfl) (by kernel_rfl) (by kernel_rfl) (fun _ _ _ h => h) (Or.inl ⟨by rfl, ?hy48x104⟩) (by assumption) ?rest48x104
            case hy48x104 => (intro w hSw; (try dsimp only at hSw); go_simp; try with_reducible rfl)
            (try simp only [Act.put, List.getElem_toArray, List.getElem_cons_zero, List.getElem_cons_succ, List.setIfInBounds_toArray, List.set_cons_zero, List.set_cons_succ])
            refine wpAnyH_done (by kernel_rfl) ?_ _
            clear hHeld d0 d1 d2 d3 d4 d5
            go_wp2_with fail
            go_roundw
            case rel => exact ⟨i + 1, by omega, by go_num, nd + 1, rfl⟩
            case measure => simp [intOf]; omega
        · have in' : ¬ (i : Int) < (ul : Int) := by omega
          go_wp2_with fail
          go_roundw
          case rel => exact ⟨k + 1, by omega, by go_num, nd, rfl⟩
          case measure => simp [intOf]; omega
    · obtain rfl : k = nfH := by omega
      have kn : ¬ (k : Int) < (k : Int) := by omega
      have hb : Below w4.heap.size w4 (w4.drewN nd) := below_drewN (Below.refl _ _) nd
      replace M1 := Lib.hid (M1.out.below hb)
      replace HA := Lib.hid (HA.out.below hb)
      replace VH := Lib.hid (VH.out.below hb)
      replace IG := Lib.hid (IG.out.below hb)
      replace VG := Lib.hid (VG.out.below hb)
      replace IW := Lib.hid (IW.out.below hb)
      replace VW := Lib.hid (VW.out.below hb)
      replace L := Lib.hid (bst L.out hb L.out.size)
      clear hb
      generalize w4.drewN nd = w5 at *
      go_wp2_with fail
      refine (d_NewThing _ z1 _ M1.out).mono ?_
      rintro e x1b ⟨aU, bU, cU, hU, mU, rfl, hshU, hmU, hAU, hb⟩
      obtain ⟨paU, qaU, rfl⟩ := hAU.f.shape
      obtain ⟨pbU, qbU, rfl⟩ := hAU.l.shape
      obtain ⟨pcU, qcU, rfl⟩ := hAU.r.shape
      replace M1 := Lib.hid (M1.out.below hb)
      replace HA := Lib.hid (HA.out.below hb)
      replace VH := Lib.hid (VH.out.below hb)
      replace IG := Lib.hid (IG.out.below hb)
      replace VG := Lib.hid (VG.out.below hb)
      replace IW := Lib.hid (IW.out.below hb)
      replace VW := Lib.hid (VW.out.below hb)
      replace L := Lib.hid (bst L.out hb L.out.size)
      have HU := Lib.hid hAU
      have FN := Lib.hid (new_facts (h := hU) (m := mU))
      have HBN : Hid (∀ X : H, X = (newP hU mU).1 → X.f.length ≤ 1000 ∧ X.l.length ≤ 1000 ∧ X.r.length ≤ 1000 ∧ ∀ i, (X.f.getD i []).length ≤ 1000) := fun X q => by rw [q]; exact wt_bounds (newP_wt hU mU)
      have HN1 := Lib.hid (fun w' q1 => c_NewThing (.slice paU hU.f.length qaU) (.slice pbU hU.l.length qbU) (.slice pcU hU.r.length qcU) hU mU w' q1)
      have HN2 := Lib.hid (fun w' q1 => s_NewThing (.slice paU hU.f.length qaU) (.slice pbU hU.l.length qbU) (.slice pcU hU.r.length qcU) hU mU w' q1)
      clear hb hAU hshU
      generalize (newP hU mU).1 = hN at *
      generalize (newP hU mU).2 = kN at *
      generalize newOk hU mU = okN at *
      generalize hU.f.length = nfU at *
      generalize hU.l.length = nlU at *
      generalize hU.r.length = nrU at *
      obtain ⟨nfN, hnf⟩ : ∃ q, hN.f.length = q := ⟨_, rfl⟩
      obtain ⟨nlN, hnl⟩ : ∃ q, hN.l.length = q := ⟨_, rfl⟩
      obtain ⟨nrN, hnr⟩ : ∃ q, hN.r.length = q := ⟨_, rfl⟩
      have NNf := Lib.hid hnf; have NNl := Lib.hid hnl; have NNr := Lib.hid hnr
      clear hnf hnl hnr
      have hbq := below1 x1b (.cells (c3 (.slice paU nfU qaU) (.slice pbU nlU qbU) (.slice pcU nrU qcU)) 30)
      replace M1 := Lib.hid (M1.out.below hbq)
      replace HA := Lib.hid (HA.out.below hbq)
      replace VH := Lib.hid (VH.out.below hbq)
      replace IG := Lib.hid (IG.out.below hbq)
      replace VG := Lib.hid (VG.out.below hbq)
      replace IW := Lib.hid (IW.out.below hbq)
      replace VW := Lib.hid (VW.out.below hbq)
      replace HU := Lib.hid (HU.out.below hbq)
      replace L := Lib.hid (bst L.out hbq L.out.size)
      clear hbq
      have VU := Lib.hid (show RowH _ _ _ _ _ from Row.new x1b 30 (c3 (.slice paU nfU qaU) (.slice pbU nlU qbU) (.slice pcU nrU qcU)))
      have c0VU := VU.out.c0
      have c1VU := VU.out.c1
      have c2VU := VU.out.c2
      go_wp2_with fail
      clear c0VU c1VU c2VU
      refine (HN1.out _ HU.out).mono ?_
      intro e x2b hend
      obtain ⟨aM, bM, cM, rfl, hiM, hb⟩ := hend.reads
      clear hend
      obtain ⟨paM, qaM, rfl⟩ := hiM.f.shape
      obtain ⟨pbM, qbM, rfl⟩ := hiM.l.shape
      obtain ⟨pcM, qcM, rfl⟩ := hiM.r.shape
      replace M1 := Lib.hid (M1.out.below hb)
      replace HA := Lib.hid (HA.out.below hb)
      replace VH := Lib.hid (VH.out.below hb)
      replace IG := Lib.hid (IG.out.below hb)
      replace VG := Lib.hid (VG.out.below hb)
      replace IW := Lib.hid (IW.out.below hb)
      replace VW := Lib.hid (VW.out.below hb)
      replace HU := Lib.hid (HU.out.below hb)
      replace VU := Lib.hid (VU.out.below hb)
      replace L := Lib.hid (bst L.out hb L.out.size)
      have IM := Lib.hid hiM
      clear hb hiM
      simp only [NNf.out, NNl.out, NNr.out] at IM ⊢
      have hbq := below1 x2b (.cells (c3 (.slice paM nfN qaM) (.slice pbM nlN qbM) (.slice pcM nrN qcM)) 30)
      replace M1 := Lib.hid (M1.out.below hbq)
      replace HA := Lib.hid (HA.out.below hbq)
      replace VH := Lib.hid (VH.out.below hbq)
      replace IG := Lib.hid (IG.out.below hbq)
      replace VG := Lib.hid (VG.out.below hbq)
      replace IW := Lib.hid (IW.out.below hbq)
      replace VW := Lib.hid (VW.out.below hbq)
      replace HU := Lib.hid (HU.out.below hbq)
      replace VU := Lib.hid (VU.out.below hbq)
      replace IM := Lib.hid (IM.out.below hbq)
      replace L := Lib.hid (bst L.out hbq L.out.size)
      clear hbq
      have VM := Lib.hid (show RowH _ _ _ _ _ from Row.new x2b 30 (c3 (.slice paM nfN qaM) (.slice pbM nlN qbM) (.slice pcM nrN qcM)))
      have c0VU := VU.out.c0
      have c1VU := VU.out.c1
      have c2VU := VU.out.c2
      go_wp2_with fail
      clear c0VU c1VU c2VU
      refine (HN2.out _ HU.out).mono ?_
      intro e x3b hend
      obtain ⟨aO, bO, cO, rfl, hiO, hb⟩ := hend.reads
      clear hend
      obtain ⟨paO, qaO, rfl⟩ := hiO.f.shape
      obtain ⟨pbO, qbO, rfl⟩ := hiO.l.shape
      obtain ⟨pcO, qcO, rfl⟩ := hiO.r.shape
      replace M1 := Lib.hid (M1.out.below hb)
      replace HA := Lib.hid (HA.out.below hb)
      replace VH := Lib.hid (VH.out.below hb)
      replace IG := Lib.hid (IG.out.below hb)
      replace VG := Lib.hid (VG.out.below hb)
      replace IW := Lib.hid (IW.out.below hb)
      replace VW := Lib.hid (VW.out.below hb)
      replace HU := Lib.hid (HU.out.below hb)
      replace VU := Lib.hid (VU.out.below hb)
      replace IM := Lib.hid (IM.out.below hb)
      replace VM := Lib.hid (VM.out.below hb)
      replace L := Lib.hid (bst L.out hb L.out.size)
      have IO := Lib.hid hiO
      clear hb hiO
      simp only [NNf.out, NNl.out, NNr.out] at IO ⊢
      have hbq := below1 x3b (.cells (c3 (.slice paO nfN qaO) (.slice pbO nlN qbO) (.slice pcO nrN qcO)) 30)
      replace M1 := Lib.hid (M1.out.below hbq)
      replace HA := Lib.hid (HA.out.below hbq)
      replace VH := Lib.hid (VH.out.below hbq)
      replace IG := Lib.hid (IG.out.below hbq)
      replace VG := Lib.hid (VG.out.below hbq)
      replace IW := Lib.hid (IW.out.below hbq)
      replace VW := Lib.hid (VW.out.below hbq)
      replace HU := Lib.hid (HU.out.below hbq)
      replace VU := Lib.hid (VU.out.below hbq)
      replace IM := Lib.hid (IM.out.below hbq)
      replace VM := Lib.hid (VM.out.below hbq)
      replace IO := Lib.hid (IO.out.below hbq)
      replace L := Lib.hid (bst L.out hbq L.out.size)
      clear hbq
      have VO := Lib.hid (show RowH _ _ _ _ _ from Row.new x3b 30 (c3 (.slice paO nfN qaO) (.slice pbO nlN qbO) (.slice pcO nrN qcO)))
      go_wp2_with fail
      refine (d_SetRoot _ z1 _ M1.out).mono ?_
      rintro e x4b ⟨aR, bR, cR, hR, kR, tR, rfl, hshR, hAR, hb⟩
      obtain ⟨paR, qaR, rfl⟩ := hAR.f.shape
      obtain ⟨pbR, qbR, rfl⟩ := hAR.l.shape
      obtain ⟨pcR, qcR, rfl⟩ := hAR.r.shape
      replace M1 := Lib.hid (M1.out.below hb)
      replace HA := Lib.hid (HA.out.below hb)
      replace VH := Lib.hid (VH.out.below hb)
      replace IG := Lib.hid (IG.out.below hb)
      replace VG := Lib.hid (VG.out.below hb)
      replace IW := Lib.hid (IW.out.below hb)
      replace VW := Lib.hid (VW.out.below hb)
      replace HU := Lib.hid (HU.out.below hb)
      replace VU := Lib.hid (VU.out.below hb)
      replace IM := Lib.hid (IM.out.below hb)
      replace VM := Lib.hid (VM.out.below hb)
      replace IO := Lib.hid (IO.out.below hb)
      replace VO := Lib.hid (VO.out.below hb)
      replace L := Lib.hid (bst L.out hb L.out.size)
      have HRR := Lib.hid hAR
      have HBR : Hid (∀ X : H, X = setR hR kR tR → X.f.length ≤ 1000 ∧ X.l.length ≤ 1000 ∧ X.r.length ≤ 1000 ∧ ∀ i, (X.f.getD i []).length ≤ 1000) := fun X q => by rw [q]; exact wt_bounds (setR_wt hR kR tR)
      have HR1 := Lib.hid (fun w' q1 => c_SetRoot (.slice paR hR.f.length qaR) (.slice pbR hR.l.length qbR) (.slice pcR hR.r.length qcR) hR kR tR w' q1)
      have HR2 := Lib.hid (fun w' q1 => s_SetRoot (.slice paR hR.f.length qaR) (.slice pbR hR.l.length qbR) (.slice pcR hR.r.length qcR) hR kR tR w' q1)
      clear hb hAR hshR
      generalize setR hR kR tR = hT at *
      generalize setROk hR kR tR = okR at *
      generalize hR.f.length = nfR at *
      generalize hR.l.length = nlR at *
      generalize hR.r.length = nrR at *
      obtain ⟨nfT, hnf⟩ : ∃ q, hT.f.length = q := ⟨_, rfl⟩
      obtain ⟨nlT, hnl⟩ : ∃ q, hT.l.length = q := ⟨_, rfl⟩
      obtain ⟨nrT, hnr⟩ : ∃ q, hT.r.length = q := ⟨_, rfl⟩
      have NTf := Lib.hid hnf; have NTl := Lib.hid hnl; have NTr := Lib.hid hnr
      clear hnf hnl hnr
      have hbq := below1 x4b (.cells (c3 (.slice paR nfR qaR) (.slice pbR nlR qbR) (.slice pcR nrR qcR)) 30)
      replace M1 := Lib.hid (M1.out.below hbq)
      replace HA := Lib.hid (HA.out.below hbq)
      replace VH := Lib.hid (VH.out.below hbq)
      replace IG := Lib.hid (IG.out.below hbq)
      replace VG := Lib.hid (VG.out.below hbq)
      replace IW := Lib.hid (IW.out.below hbq)
      replace VW := Lib.hid (VW.out.below hbq)
      replace HU := Lib.hid (HU.out.below hbq)
      replace VU := Lib.hid (VU.out.below hbq)
      replace IM := Lib.hid (IM.out.below hbq)
      replace VM := Lib.hid (VM.out.below hbq)
      replace IO := Lib.hid (IO.out.below hbq)
      replace VO := Lib.hid (VO.out.below hbq)
      replace HRR := Lib.hid (HRR.out.below hbq)
      replace L := Lib.hid (bst L.out hbq L.out.size)
      clear hbq
      have VR := Lib.hid (show RowH _ _ _ _ _ from Row.new x4b 30 (c3 (.slice paR nfR qaR) (.slice pbR nlR qbR) (.slice pcR nrR qcR)))
      have c0VR := VR.out.c0
      have c1VR := VR.out.c1
      have c2VR := VR.out.c2
      go_wp2_with fail
      clear c0VR c1VR c2VR
      refine (HR1.out _ HRR.out).mono ?_
      intro e x5b hend
      obtain ⟨aP, bP, cP, rfl, hiP, hb⟩ := hend.reads
      clear hend
      obtain ⟨paP, qaP, rfl⟩ := hiP.f.shape
      obtain ⟨pbP, qbP, rfl⟩ := hiP.l.shape
      obtain ⟨pcP, qcP, rfl⟩ := hiP.r.shape
      replace M1 := Lib.hid (M1.out.below hb)
      replace HA := Lib.hid (HA.out.below hb)
      replace VH := Lib.hid (VH.out.below hb)
      replace IG := Lib.hid (IG.out.below hb)
      replace VG := Lib.hid (VG.out.below hb)
      replace IW := Lib.hid (IW.out.below hb)
      replace VW := Lib.hid (VW.out.below hb)
      replace HU := Lib.hid (HU.out.below hb)
      replace VU := Lib.hid (VU.out.below hb)
      replace IM := Lib.hid (IM.out.below hb)
      replace VM := Lib.hid (VM.out.below hb)
      replace IO := Lib.hid (IO.out.below hb)
      replace VO := Lib.hid (VO.out.below hb)
      replace HRR := Lib.hid (HRR.out.below hb)
      replace VR := Lib.hid (VR.out.below hb)
      replace L := Lib.hid (bst L.out hb L.out.size)
      have IP := Lib.hid hiP
      clear hb hiP
      simp only [NTf.out, NTl.out, NTr.out] at IP ⊢
      have hbq := below1 x5b (.cells (c3 (.slice paP nfT qaP) (.slice pbP nlT qbP) (.slice pcP nrT qcP)) 30)
      replace M1 := Lib.hid (M1.out.below hbq)
      replace HA := Lib.hid (HA.out.below hbq)
      replace VH := Lib.hid (VH.out.below hbq)
      replace IG := Lib.hid (IG.out.below hbq)
      replace VG := Lib.hid (VG.out.below hbq)
      replace IW := Lib.hid (IW.out.below hbq)
      replace VW := Lib.hid (VW.out.below hbq)
      replace HU := Lib.hid (HU.out.below hbq)
      replace VU := Lib.hid (VU.out.below hbq)
      replace IM := Lib.hid (IM.out.below hbq)
      replace VM := Lib.hid (VM.out.below hbq)
      replace IO := Lib.hid (IO.out.below hbq)
      replace VO := Lib.hid (VO.out.below hbq)
      replace HRR := Lib.hid (HRR.out.below hbq)
      replace VR := Lib.hid (VR.out.below hbq)
      replace IP := Lib.hid (IP.out.below hbq)
      replace L := Lib.hid (bst L.out hbq L.out.size)
      clear hbq
      have VP := Lib.hid (show RowH _ _ _ _ _ from Row.new x5b 30 (c3 (.slice paP nfT qaP) (.slice pbP nlT qbP) (.slice pcP nrT qcP)))
      have c0VR := VR.out.c0
      have c1VR := VR.out.c1
      have c2VR := VR.out.c2
      go_wp2_with fail
      clear c0VR c1VR c2VR
      refine (HR2.out _ HRR.out).mono ?_
      intro e x6b hend
      obtain ⟨aQ, bQ, cQ, rfl, hiQ, hb⟩ := hend.reads
      clear hend
      obtain ⟨paQ, qaQ, rfl⟩ := hiQ.f.shape
      obtain ⟨pbQ, qbQ, rfl⟩ := hiQ.l.shape
      obtain ⟨pcQ, qcQ, rfl⟩ := hiQ.r.shape
      replace M1 := Lib.hid (M1.out.below hb)
      replace HA := Lib.hid (HA.out.below hb)
      replace VH := Lib.hid (VH.out.below hb)
      replace IG := Lib.hid (IG.out.below hb)
      replace VG := Lib.hid (VG.out.below hb)
      replace IW := Lib.hid (IW.out.below hb)
      replace VW := Lib.hid (VW.out.below hb)
      replace HU := Lib.hid (HU.out.below hb)
      replace VU := Lib.hid (VU.out.below hb)
      replace IM := Lib.hid (IM.out.below hb)
      replace VM := Lib.hid (VM.out.below hb)
      replace IO := Lib.hid (IO.out.below hb)
      replace VO := Lib.hid (VO.out.below hb)
      replace HRR := Lib.hid (HRR.out.below hb)
      replace VR := Lib.hid (VR.out.below hb)
      replace IP := Lib.hid (IP.out.below hb)
      replace VP := Lib.hid (VP.out.below hb)
      replace L := Lib.hid (bst L.out hb L.out.size)
      have IQ := Lib.hid hiQ
      clear hb hiQ
      simp only [NTf.out, NTl.out, NTr.out] at IQ ⊢
      have hbq := below1 x6b (.cells (c3 (.slice paQ nfT qaQ) (.slice pbQ nlT qbQ) (.slice pcQ nrT qcQ)) 30)
      replace M1 := Lib.hid (M1.out.below hbq)
      replace HA := Lib.hid (HA.out.below hbq)
      replace VH := Lib.hid (VH.out.below hbq)
      replace IG := Lib.hid (IG.out.below hbq)
      replace VG := Lib.hid (VG.out.below hbq)
      replace IW := Lib.hid (IW.out.below hbq)
      replace VW := Lib.hid (VW.out.below hbq)
      replace HU := Lib.hid (HU.out.below hbq)
      replace VU := Lib.hid (VU.out.below hbq)
      replace IM := Lib.hid (IM.out.below hbq)
      replace VM := Lib.hid (VM.out.below hbq)
      replace IO := Lib.hid (IO.out.below hbq)
      replace VO := Lib.hid (VO.out.below hbq)
      replace HRR := Lib.hid (HRR.out.below hbq)
      replace VR := Lib.hid (VR.out.below hbq)
      replace IP := Lib.hid (IP.out.below hbq)
      replace VP := Lib.hid (VP.out.below hbq)
      replace IQ := Lib.hid (IQ.out.below hbq)
      replace L := Lib.hid (bst L.out hbq L.out.size)
      clear hbq
      have VQ := Lib.hid (show RowH _ _ _ _ _ from Row.new x6b 30 (c3 (.slice paQ nfT qaQ) (.slice pbQ nlT qbQ) (.slice pcQ nrT qcQ)))
      have e5 : (okN != okN) = false := by simp
      have e6 : ((kN : Int) != (kN : Int)) = false := by simp
      have e7 : (okR != okR) = false := by simp
      have c0VM := VM.out.c0
      have c1VM := VM.out.c1
      have c2VM := VM.out.c2
      have c0VO := VO.out.c0
      have c1VO := VO.out.c1
      have c2VO := VO.out.c2
      go_wp2_with fail
      clear c0VM c1VM c2VM c0VO c1VO c2VO
      obtain ⟨u1, u2, u3, u4⟩ := HBN.out _ rfl
      refine (c_sameHeap _ _ _ _ _ _ hN _ IM.out IO.out u1 u2 u3 u4).mono ?_
      clear u1 u2 u3 u4
      rintro e y1b ⟨rfl, hb⟩
      replace M1 := Lib.hid (M1.out.below hb)
      replace HA := Lib.hid (HA.out.below hb)
      replace VH := Lib.hid (VH.out.below hb)
      replace IG := Lib.hid (IG.out.below hb)
      replace VG := Lib.hid (VG.out.below hb)
      replace IW := Lib.hid (IW.out.below hb)
      replace VW := Lib.hid (VW.out.below hb)
      replace HU := Lib.hid (HU.out.below hb)
      replace VU := Lib.hid (VU.out.below hb)
      replace IM := Lib.hid (IM.out.below hb)
      replace VM := Lib.hid (VM.out.below hb)
      replace IO := Lib.hid (IO.out.below hb)
      replace VO := Lib.hid (VO.out.below hb)
      replace HRR := Lib.hid (HRR.out.below hb)
      replace VR := Lib.hid (VR.out.below hb)
      replace IP := Lib.hid (IP.out.below hb)
      replace VP := Lib.hid (VP.out.below hb)
      replace IQ := Lib.hid (IQ.out.below hb)
      replace VQ := Lib.hid (VQ.out.below hb)
      replace L := Lib.hid (bst L.out hb L.out.size)
      clear hb
      have c0VP := VP.out.c0
      have c1VP := VP.out.c1
      have c2VP := VP.out.c2
      have c0VQ := VQ.out.c0
      have c1VQ := VQ.out.c1
      have c2VQ := VQ.out.c2
      go_wp2_with fail
      clear c0VP c1VP c2VP c0VQ c1VQ c2VQ
      obtain ⟨u1, u2, u3, u4⟩ := HBR.out _ rfl
      refine (c_sameHeap _ _ _ _ _ _ hT _ IP.out IQ.out u1 u2 u3 u4).mono ?_
      clear u1 u2 u3 u4
      rintro e y2b ⟨rfl, hb⟩
      replace M1 := Lib.hid (M1.out.below hb)
      replace HA := Lib.hid (HA.out.below hb)
      replace VH := Lib.hid (VH.out.below hb)
      replace IG := Lib.hid (IG.out.below hb)
      replace VG := Lib.hid (VG.out.below hb)
      replace IW := Lib.hid (IW.out.below hb)
      replace VW := Lib.hid (VW.out.below hb)
      replace HU := Lib.hid (HU.out.below hb)
      replace VU := Lib.hid (VU.out.below hb)
      replace IM := Lib.hid (IM.out.below hb)
      replace VM := Lib.hid (VM.out.below hb)
      replace IO := Lib.hid (IO.out.below hb)
      replace VO := Lib.hid (VO.out.below hb)
      replace HRR := Lib.hid (HRR.out.below hb)
      replace VR := Lib.hid (VR.out.below hb)
      replace IP := Lib.hid (IP.out.below hb)
      replace VP := Lib.hid (VP.out.below hb)
      replace IQ := Lib.hid (IQ.out.below hb)
      replace VQ := Lib.hid (VQ.out.below hb)
      replace L := Lib.hid (bst L.out hb L.out.size)
      clear hb
      cases okN
      · go_wp2_with fail
        go_ret
        exact ⟨rfl, L.out⟩
      obtain ⟨g1, g2, g3, g4, g5, g6, g7⟩ := FN.out rfl
      have HC3 := Lib.hid (fun w' q1 => c_ReachedIn (.slice paM nfN qaM) (.slice pbM nlN qbM) (.slice pcM nrN qcM) hN w' q1)
      have HC4 := Lib.hid (fun w' q1 => c_GoodHeap (.slice paM nfN qaM) (.slice pbM nlN qbM) (.slice pcM nrN qcM) hN w' q1)
      rw [g1] at HC3 HC4
      rw [NNf.out] at g2 g3 g4
      rw [NNl.out] at g4
      have G5 := Lib.hid g5; have G6 := Lib.hid g6; have G7 := Lib.hid g7; have G2 := Lib.hid g2; have G4 := Lib.hid g4
      clear g1 g2 g4 g5 g6 g7 FN
      generalize reachR hN = rb at *
      have c0VM := VM.out.c0
      have c1VM := VM.out.c1
      have c2VM := VM.out.c2
      go_wp2_with fail
      clear c0VM c1VM c2VM
      refine (HC3.out _ IM.out).mono ?_
      intro e y3b hend
      obtain ⟨vB, rfl, hiB, hb⟩ := hend.reads5
      clear hend
      obtain ⟨pB, qB, rfl⟩ := hiB.shape
      replace M1 := Lib.hid (M1.out.below hb)
      replace HA := Lib.hid (HA.out.below hb)
      replace VH := Lib.hid (VH.out.below hb)
      replace IG := Lib.hid (IG.out.below hb)
      replace VG := Lib.hid (VG.out.below hb)
      replace IW := Lib.hid (IW.out.below hb)
      replace VW := Lib.hid (VW.out.below hb)
      replace HU := Lib.hid (HU.out.below hb)
      replace VU := Lib.hid (VU.out.below hb)
      replace IM := Lib.hid (IM.out.below hb)
      replace VM := Lib.hid (VM.out.below hb)
      replace IO := Lib.hid (IO.out.below hb)
      replace VO := Lib.hid (VO.out.below hb)
      replace HRR := Lib.hid (HRR.out.below hb)
      replace VR := Lib.hid (VR.out.below hb)
      replace IP := Lib.hid (IP.out.below hb)
      replace VP := Lib.hid (VP.out.below hb)
      replace IQ := Lib.hid (IQ.out.below hb)
      replace VQ := Lib.hid (VQ.out.below hb)
      replace L := Lib.hid (bst L.out hb L.out.size)
      have IB := Lib.hid hiB
      clear hb hiB
      have c0VM := VM.out.c0
      have c1VM := VM.out.c1
      have c2VM := VM.out.c2
      go_wp2_with fail
      clear c0VM c1VM c2VM
      refine (HC4.out _ IM.out).mono ?_
      rintro e y4b ⟨rfl, hb⟩
      replace M1 := Lib.hid (M1.out.below hb)
      replace HA := Lib.hid (HA.out.below hb)
      replace VH := Lib.hid (VH.out.below hb)
      replace IG := Lib.hid (IG.out.below hb)
      replace VG := Lib.hid (VG.out.below hb)
      replace IW := Lib.hid (IW.out.below hb)
      replace VW := Lib.hid (VW.out.below hb)
      replace HU := Lib.hid (HU.out.below hb)
      replace VU := Lib.hid (VU.out.below hb)
      replace IM := Lib.hid (IM.out.below hb)
      replace VM := Lib.hid (VM.out.below hb)
      replace IO := Lib.hid (IO.out.below hb)
      replace VO := Lib.hid (VO.out.below hb)
      replace HRR := Lib.hid (HRR.out.below hb)
      replace VR := Lib.hid (VR.out.below hb)
      replace IP := Lib.hid (IP.out.below hb)
      replace VP := Lib.hid (VP.out.below hb)
      replace IQ := Lib.hid (IQ.out.below hb)
      replace VQ := Lib.hid (VQ.out.below hb)
      replace IB := Lib.hid (IB.out.below hb)
      replace L := Lib.hid (bst L.out hb L.out.size)
      clear hb
      have g4 := G4.out
      rw [G2.out] at IB ⊢
      clear G2 G4
      subst g4
      obtain ⟨bb, ob, rfl, hcb⟩ := IB.out.at' (by omega)
      obtain ⟨bl, ol, rfl, hcl⟩ := IM.out.l.at' (by omega)
      obtain ⟨bf, of', rfl, hcf⟩ := IM.out.f.at' (by omega)
      have q1 := hcb kN (by omega)
      have q2 := hcl kN (by omega)
      obtain ⟨u, q3, hu⟩ := hcf kN (by omega)
      obtain ⟨ua, uc, rfl⟩ := hu.shape
      rw [G5.out] at q1
      rw [G6.out] at q2
      have g7 := G7.out
      generalize (hN.f.getD kN []).length = ul at *
      have e8 : ((ul : Int) != mU) = false := by rw [g7]; simp
      have k0 : (0 : Int) ≤ (kN : Int) := by omega
      have k1 : (kN : Int) < ((nlN : Nat) : Int) := by omega
      have k2 : ¬ ((nlN : Nat) : Int) ≤ (kN : Int) := by omega
      clear hcb hcl hcf hu g7
      have c0VM := VM.out.c0
      have c1VM := VM.out.c1
      have c2VM := VM.out.c2
      go_wp2_with fail
      go_ret
      exact ⟨rfl, L.out⟩
end Go.Proofs.Ytkkigoamphkalaa
