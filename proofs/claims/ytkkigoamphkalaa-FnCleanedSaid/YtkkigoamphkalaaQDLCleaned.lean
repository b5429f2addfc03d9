/- laws.FnCleaned: for every input the law answers true, and the input reads as it did. No condition. -/
import Derived.Test.YtkkigoamphkalaaQD6
namespace Go.Proofs.Ytkkigoamphkalaa
open Go.RowKit Ph

theorem keep_row3 {h : H} (g : Ph.Good h) (ks : List Bool) (n : Nat) : ∀ i, ((keepTo h ks n).1.f.getD i []).length ≤ 3 := by
  induction n with
  | zero =>
    intro i
    by_cases hi : i < h.f.length
    · exact (g.row i hi).1
    · show (h.f.getD i []).length ≤ 3
      rw [show h.f.getD i [] = [] by simp [List.getD, List.getElem?_eq_none (Nat.le_of_not_lt hi)]]; simp
  | succ n ih =>
    intro i
    simp only [keepTo, keepStep]
    split
    · simp only
      by_cases q : n < (keepTo h ks n).1.f.length
      · rw [getD_setL q]; split
        · simp
        · exact ih i
      · rw [List.set_eq_of_length_le (by omega)]; exact ih i
    · exact ih i
theorem cleanP_bounds (h : H) : (cleanP h).1.f.length ≤ 1000 ∧ (cleanP h).1.l.length ≤ 1000 ∧ (cleanP h).1.r.length ≤ 1000 ∧ ∀ i, ((cleanP h).1.f.getD i []).length ≤ 1000 := by
  cases hg : good h with
  | false => rw [cleanP_no hg]; exact ⟨by simp, by simp, by simp, fun i => by simp⟩
  | true =>
    have g := good_iff.1 hg
    rw [cleanP_yes hg]
    obtain ⟨e1, e2, e3, _⟩ := keepTo_len h (reachL h.f h.r) h.f.length
    have h1 := g.n; have h2 := g.ll; have h3 := g.rn
    exact ⟨by rw [e1]; omega, by rw [e2]; omega, by rw [e3]; omega, fun i => by have := keep_row3 g (reachL h.f h.r) h.f.length i; omega⟩
theorem EndHI.reads6 {h : H} {n : Int} {ok : Bool} {w w' : World} {e : Ending} (k : EndHI h n ok w e w') : ∃ a b c, e = .returned (.tuple #[hv a b c, .int .i64 n, .bool ok]) ∧ HeapAt w' a b c h ∧ Below w.heap.size w w' := by
  obtain ⟨a, b, c, h1, h2, h3⟩ := k
  exact ⟨a, b, c, h1, h2.reads, h3⟩
theorem EndB.reads6 {bs : List Bool} {ok : Bool} {w w' : World} {e : Ending} (h : EndB bs ok w e w') : ∃ v, e = .returned (.tuple #[v, .bool ok]) ∧ BoolsAt w' v bs ∧ Below w.heap.size w w' := by
  obtain ⟨v, h1, h2, h3⟩ := h
  exact ⟨v, h1, h2.reads.l, h3⟩
set_option maxHeartbeats 12800000 in
set_option maxRecDepth 100000 in
theorem walk_FnCleaned (v0 : Value) (z0 : List Int) (v1 : Value) (z1 : List Int) (w : World) (hz0 : BytesAt w v0 z0) (hz1 : BytesAt w v1 z1) : Calls Try.prog 11 #[v0, v1] w fun e w' => e = .returned (.bool true) ∧ Below w.heap.size w w' := by
  obtain ⟨_, _, a0, ca0, hv0, _⟩ := id hz0
  obtain ⟨_, _, a2, ca2, hv2, _⟩ := id hz1
  have HZ := Lib.hid hz0; have M1 := Lib.hid hz1; clear hz0 hz1
  subst hv0
  subst hv2
  generalize hn : z0.length = n at *
  generalize hn2 : z1.length = n2 at *
  clear hn hn2
  by_cases hm : 1048576 < Go.RowKit.wrap64 ((n : Int) + (n2 : Int))
  · go_enter Try.func11, Try.ntmps11
    go_wp2
    go_ret
    exact ⟨rfl, Below.refl _ _⟩
  have L := Lib.hid (Below.refl w.heap.size w)
  go_enter Try.func11, Try.ntmps11
  go_wp2_with fail
  refine (d_CleanHeap _ z0 _ HZ.out).mono ?_
  rintro e w1 ⟨a, b, cc, h, rfl, hsh, hA, hb⟩
  clear HZ
  obtain ⟨paH, qaH, rfl⟩ := hA.f.shape
  obtain ⟨pbH, qbH, rfl⟩ := hA.l.shape
  obtain ⟨pcH, qcH, rfl⟩ := hA.r.shape
  have HA := Lib.hid hA
  have FS := Lib.hid (clean_facts (h := h))
  have HSN := Lib.hid hsh.n; have HSR := Lib.hid hsh.row
  have HBS : Hid (∀ X : H, X = (cleanP h).1 → X.f.length ≤ 1000 ∧ X.l.length ≤ 1000 ∧ X.r.length ≤ 1000 ∧ ∀ i, (X.f.getD i []).length ≤ 1000) := fun X q => by rw [q]; exact cleanP_bounds h
  have HBR : Hid ((reachR h).length ≤ 9223372036854775806) := by unfold Hid; have := reachR_len h; omega
  have HC1 := Lib.hid (fun w' q1 => c_CleanHeap (.slice paH h.f.length qaH) (.slice pbH h.l.length qbH) (.slice pcH h.r.length qcH) h w' q1)
  have HC2 := Lib.hid (fun w' q1 => s_CleanHeap (.slice paH h.f.length qaH) (.slice pbH h.l.length qbH) (.slice pcH h.r.length qcH) h w' q1)
  have HR1 := Lib.hid (fun w' q1 => c_ReachedIn (.slice paH h.f.length qaH) (.slice pbH h.l.length qbH) (.slice pcH h.r.length qcH) h w' q1)
  have HR2 := Lib.hid (fun w' q1 => s_ReachedIn (.slice paH h.f.length qaH) (.slice pbH h.l.length qbH) (.slice pcH h.r.length qcH) h w' q1)
  have HG1 := Lib.hid (fun w' q1 => c_GoodHeap (.slice paH h.f.length qaH) (.slice pbH h.l.length qbH) (.slice pcH h.r.length qcH) h w' q1)
  have HSM := Lib.hid (fun a b c w' q1 q2 => c_SameReached (.slice paH h.f.length qaH) (.slice pbH h.l.length qbH) (.slice pcH h.r.length qcH) a b c h (cleanP h).1 w' q1 q2)
  clear hA hsh
  generalize (cleanP h).1 = s at *
  generalize ((cleanP h).2 : Int) = n1 at *
  generalize reachR h = rb at *
  generalize good h = ok at *
  generalize hfl : h.f.length = nfH at *
  have HFL := Lib.hid hfl; clear hfl
  generalize h.l.length = nlH at *
  generalize h.r.length = nrH at *
  obtain ⟨nfS, hnf⟩ : ∃ q, s.f.length = q := ⟨_, rfl⟩
  obtain ⟨nlS, hnl⟩ : ∃ q, s.l.length = q := ⟨_, rfl⟩
  obtain ⟨nrS, hnr⟩ : ∃ q, s.r.length = q := ⟨_, rfl⟩
  obtain ⟨nB, hnb⟩ : ∃ q, rb.length = q := ⟨_, rfl⟩
  have NSf := Lib.hid hnf; have NSl := Lib.hid hnl; have NSr := Lib.hid hnr; have NB := Lib.hid hnb
  clear hnf hnl hnr hnb
  replace M1 := Lib.hid (M1.out.below hb)
  replace L := Lib.hid (bst L.out hb L.out.size)
  clear hb
  have hbq := below1 w1 (.cells (c3 (.slice paH nfH qaH) (.slice pbH nlH qbH) (.slice pcH nrH qcH)) 30)
  replace M1 := Lib.hid (M1.out.below hbq)
  replace HA := Lib.hid (HA.out.below hbq)
  replace L := Lib.hid (bst L.out hbq L.out.size)
  clear hbq
  have VH := Lib.hid (show RowH _ _ _ _ _ from Row.new w1 30 (c3 (.slice paH nfH qaH) (.slice pbH nlH qbH) (.slice pcH nrH qcH)))
  have c0VH := VH.out.c0
  have c1VH := VH.out.c1
  have c2VH := VH.out.c2
  go_wp2_with fail
  clear c0VH c1VH c2VH
  refine (HC1.out _ HA.out).mono ?_
  intro e w2 hend
  obtain ⟨aG, bG, cG, rfl, hiG, hb⟩ := hend.reads6
  clear hend
  obtain ⟨paG, qaG, rfl⟩ := hiG.f.shape
  obtain ⟨pbG, qbG, rfl⟩ := hiG.l.shape
  obtain ⟨pcG, qcG, rfl⟩ := hiG.r.shape
  replace M1 := Lib.hid (M1.out.below hb)
  replace HA := Lib.hid (HA.out.below hb)
  replace VH := Lib.hid (VH.out.below hb)
  replace L := Lib.hid (bst L.out hb L.out.size)
  have IG := Lib.hid hiG
  clear hb hiG
  simp only [NSf.out, NSl.out, NSr.out] at IG ⊢
  have hbq := below1 w2 (.cells (c3 (.slice paG nfS qaG) (.slice pbG nlS qbG) (.slice pcG nrS qcG)) 30)
  replace M1 := Lib.hid (M1.out.below hbq)
  replace HA := Lib.hid (HA.out.below hbq)
  replace VH := Lib.hid (VH.out.below hbq)
  replace IG := Lib.hid (IG.out.below hbq)
  replace L := Lib.hid (bst L.out hbq L.out.size)
  clear hbq
  have VG := Lib.hid (show RowH _ _ _ _ _ from Row.new w2 30 (c3 (.slice paG nfS qaG) (.slice pbG nlS qbG) (.slice pcG nrS qcG)))
  have c0VH := VH.out.c0
  have c1VH := VH.out.c1
  have c2VH := VH.out.c2
  go_wp2_with fail
  clear c0VH c1VH c2VH
  refine (HC2.out _ HA.out).mono ?_
  intro e w3 hend
  obtain ⟨aW, bW, cW, rfl, hiW, hb⟩ := hend.reads6
  clear hend
  obtain ⟨paW, qaW, rfl⟩ := hiW.f.shape
  obtain ⟨pbW, qbW, rfl⟩ := hiW.l.shape
  obtain ⟨pcW, qcW, rfl⟩ := hiW.r.shape
  replace M1 := Lib.hid (M1.out.below hb)
  replace HA := Lib.hid (HA.out.below hb)
  replace VH := Lib.hid (VH.out.below hb)
  replace IG := Lib.hid (IG.out.below hb)
  replace VG := Lib.hid (VG.out.below hb)
  replace L := Lib.hid (bst L.out hb L.out.size)
  have IW := Lib.hid hiW
  clear hb hiW
  simp only [NSf.out, NSl.out, NSr.out] at IW ⊢
  have hbq := below1 w3 (.cells (c3 (.slice paW nfS qaW) (.slice pbW nlS qbW) (.slice pcW nrS qcW)) 30)
  replace M1 := Lib.hid (M1.out.below hbq)
  replace HA := Lib.hid (HA.out.below hbq)
  replace VH := Lib.hid (VH.out.below hbq)
  replace IG := Lib.hid (IG.out.below hbq)
  replace VG := Lib.hid (VG.out.below hbq)
  replace IW := Lib.hid (IW.out.below hbq)
  replace L := Lib.hid (bst L.out hbq L.out.size)
  clear hbq
  have VW := Lib.hid (show RowH _ _ _ _ _ from Row.new w3 30 (c3 (.slice paW nfS qaW) (.slice pbW nlS qbW) (.slice pcW nrS qcW)))
  have c0VH := VH.out.c0
  have c1VH := VH.out.c1
  have c2VH := VH.out.c2
  go_wp2_with fail
  clear c0VH c1VH c2VH
  refine (HR1.out _ HA.out).mono ?_
  intro e w4 hend
  obtain ⟨vP, rfl, hiP, hb⟩ := hend.reads6
  clear hend
  obtain ⟨pP, qP, rfl⟩ := hiP.shape
  replace M1 := Lib.hid (M1.out.below hb)
  replace HA := Lib.hid (HA.out.below hb)
  replace VH := Lib.hid (VH.out.below hb)
  replace IG := Lib.hid (IG.out.below hb)
  replace VG := Lib.hid (VG.out.below hb)
  replace IW := Lib.hid (IW.out.below hb)
  replace VW := Lib.hid (VW.out.below hb)
  replace L := Lib.hid (bst L.out hb L.out.size)
  have BP := Lib.hid hiP
  clear hb hiP
  simp only [NB.out] at BP ⊢
  have c0VH := VH.out.c0
  have c1VH := VH.out.c1
  have c2VH := VH.out.c2
  go_wp2_with fail
  clear c0VH c1VH c2VH
  refine (HR2.out _ HA.out).mono ?_
  intro e w5 hend
  obtain ⟨vQ, rfl, hiQ, hb⟩ := hend.reads6
  clear hend
  obtain ⟨pQ, qQ, rfl⟩ := hiQ.shape
  replace M1 := Lib.hid (M1.out.below hb)
  replace HA := Lib.hid (HA.out.below hb)
  replace VH := Lib.hid (VH.out.below hb)
  replace IG := Lib.hid (IG.out.below hb)
  replace VG := Lib.hid (VG.out.below hb)
  replace IW := Lib.hid (IW.out.below hb)
  replace VW := Lib.hid (VW.out.below hb)
  replace BP := Lib.hid (BP.out.below hb)
  replace L := Lib.hid (bst L.out hb L.out.size)
  have BQ := Lib.hid hiQ
  clear hb hiQ
  simp only [NB.out] at BQ ⊢
  have e1 : (ok != ok) = false := by simp
  have e2 : (n1 != n1) = false := by simp
  have c0VG := VG.out.c0
  have c1VG := VG.out.c1
  have c2VG := VG.out.c2
  have c0VW := VW.out.c0
  have c1VW := VW.out.c1
  have c2VW := VW.out.c2
  go_wp2_with fail
  clear c0VG c1VG c2VG c0VW c1VW c2VW
  obtain ⟨u1, u2, u3, u4⟩ := HBS.out _ rfl
  refine (c_sameHeap _ _ _ _ _ _ s _ IG.out IW.out u1 u2 u3 u4).mono ?_
  clear u1 u2 u3 u4
  rintro e w6 ⟨rfl, hb⟩
  replace M1 := Lib.hid (M1.out.below hb)
  replace HA := Lib.hid (HA.out.below hb)
  replace VH := Lib.hid (VH.out.below hb)
  replace IG := Lib.hid (IG.out.below hb)
  replace VG := Lib.hid (VG.out.below hb)
  replace IW := Lib.hid (IW.out.below hb)
  replace VW := Lib.hid (VW.out.below hb)
  replace BP := Lib.hid (BP.out.below hb)
  replace BQ := Lib.hid (BQ.out.below hb)
  replace L := Lib.hid (bst L.out hb L.out.size)
  clear hb
  go_wp2_with fail
  refine (c_sameBools _ _ rb _ BP.out BQ.out (by have := HBR.out; have := NB.out; omega)).mono ?_
  rintro e w7 ⟨rfl, nd, hnd⟩
  have hb : Below w6.heap.size w6 w7 := by rw [hnd]; exact below_drewN (Below.refl _ _) nd
  clear hnd
  replace M1 := Lib.hid (M1.out.below hb)
  replace HA := Lib.hid (HA.out.below hb)
  replace VH := Lib.hid (VH.out.below hb)
  replace IG := Lib.hid (IG.out.below hb)
  replace VG := Lib.hid (VG.out.below hb)
  replace IW := Lib.hid (IW.out.below hb)
  replace VW := Lib.hid (VW.out.below hb)
  replace BP := Lib.hid (BP.out.below hb)
  replace BQ := Lib.hid (BQ.out.below hb)
  replace L := Lib.hid (bst L.out hb L.out.size)
  clear hb nd
  have c0VH := VH.out.c0
  have c1VH := VH.out.c1
  have c2VH := VH.out.c2
  go_wp2_with fail
  clear c0VH c1VH c2VH
  refine (HG1.out _ HA.out).mono ?_
  rintro e w8 ⟨rfl, hb⟩
  replace M1 := Lib.hid (M1.out.below hb)
  replace HA := Lib.hid (HA.out.below hb)
  replace VH := Lib.hid (VH.out.below hb)
  replace IG := Lib.hid (IG.out.below hb)
  replace VG := Lib.hid (VG.out.below hb)
  replace IW := Lib.hid (IW.out.below hb)
  replace VW := Lib.hid (VW.out.below hb)
  replace BP := Lib.hid (BP.out.below hb)
  replace BQ := Lib.hid (BQ.out.below hb)
  replace L := Lib.hid (bst L.out hb L.out.size)
  clear hb
  cases ok
  · skip
    go_wp2_with fail
    refine (d_SameReached _ z1 _ M1.out).mono ?_
    rintro e x1a ⟨aU, bU, cU, hU, aV, bV, cV, hV, rfl, hAU, hAV, hb⟩
    obtain ⟨paU, qaU, rfl⟩ := hAU.f.shape
    obtain ⟨pbU, qbU, rfl⟩ := hAU.l.shape
    obtain ⟨pcU, qcU, rfl⟩ := hAU.r.shape
    obtain ⟨paV, qaV, rfl⟩ := hAV.f.shape
    obtain ⟨pbV, qbV, rfl⟩ := hAV.l.shape
    obtain ⟨pcV, qcV, rfl⟩ := hAV.r.shape
    replace M1 := Lib.hid (M1.out.below hb)
    replace HA := Lib.hid (HA.out.below hb)
    replace VH := Lib.hid (VH.out.below hb)
    replace IG := Lib.hid (IG.out.below hb)
    replace VG := Lib.hid (VG.out.below hb)
    replace IW := Lib.hid (IW.out.below hb)
    replace VW := Lib.hid (VW.out.below hb)
    replace BP := Lib.hid (BP.out.below hb)
    replace BQ := Lib.hid (BQ.out.below hb)
    replace L := Lib.hid (bst L.out hb L.out.size)
    have HU := Lib.hid hAU; have HV := Lib.hid hAV
    have HS1 := Lib.hid (fun w' q1 q2 => c_SameReached (.slice paU hU.f.length qaU) (.slice pbU hU.l.length qbU) (.slice pcU hU.r.length qcU) (.slice paV hV.f.length qaV) (.slice pbV hV.l.length qbV) (.slice pcV hV.r.length qcV) hU hV w' q1 q2)
    have HS2 := Lib.hid (fun w' q1 q2 => s_SameReached (.slice paU hU.f.length qaU) (.slice pbU hU.l.length qbU) (.slice pcU hU.r.length qcU) (.slice paV hV.f.length qaV) (.slice pbV hV.l.length qbV) (.slice pcV hV.r.length qcV) hU hV w' q1 q2)
    clear hb hAU hAV
    generalize sameQ hU hV = sq at *
    generalize Ph.both hU hV = bo at *
    generalize hU.f.length = nfU at *
    generalize hU.l.length = nlU at *
    generalize hU.r.length = nrU at *
    generalize hV.f.length = nfV at *
    generalize hV.l.length = nlV at *
    generalize hV.r.length = nrV at *
    have hbq := (below1 x1a (.cells (c3 (.slice paU nfU qaU) (.slice pbU nlU qbU) (.slice pcU nrU qcU)) 30)).alloc (by simp) (.cells (c3 (.slice paV nfV qaV) (.slice pbV nlV qbV) (.slice pcV nrV qcV)) 30)
    replace M1 := Lib.hid (M1.out.below hbq)
    replace HA := Lib.hid (HA.out.below hbq)
    replace VH := Lib.hid (VH.out.below hbq)
    replace IG := Lib.hid (IG.out.below hbq)
    replace VG := Lib.hid (VG.out.below hbq)
    replace IW := Lib.hid (IW.out.below hbq)
    replace VW := Lib.hid (VW.out.below hbq)
    replace BP := Lib.hid (BP.out.below hbq)
    replace BQ := Lib.hid (BQ.out.below hbq)
    replace HU := Lib.hid (HU.out.below hbq)
    replace HV := Lib.hid (HV.out.below hbq)
    replace L := Lib.hid (bst L.out hbq L.out.size)
    clear hbq
    have VU := Lib.hid (show RowH ((x1a.alloc (.cells (c3 (.slice paU nfU qaU) (.slice pbU nlU qbU) (.slice pcU nrU qcU)) 30)).alloc (.cells (c3 (.slice paV nfV qaV) (.slice pbV nlV qbV) (.slice pcV nrV qcV)) 30)) x1a.heap.size _ _ _ from (Row.new x1a 30 (c3 (.slice paU nfU qaU) (.slice pbU nlU qbU) (.slice pcU nrU qcU))).alloc (.cells (c3 (.slice paV nfV qaV) (.slice pbV nlV qbV) (.slice pcV nrV qcV)) 30))
    have VV := Lib.hid (show RowH ((x1a.alloc (.cells (c3 (.slice paU nfU qaU) (.slice pbU nlU qbU) (.slice pcU nrU qcU)) 30)).alloc (.cells (c3 (.slice paV nfV qaV) (.slice pbV nlV qbV) (.slice pcV nrV qcV)) 30)) (x1a.heap.size + 1) _ _ _ from Row.new1 x1a (.cells (c3 (.slice paU nfU qaU) (.slice pbU nlU qbU) (.slice pcU nrU qcU)) 30) 30 (c3 (.slice paV nfV qaV) (.slice pbV nlV qbV) (.slice pcV nrV qcV)))
    have c0VU := VU.out.c0
    have c1VU := VU.out.c1
    have c2VU := VU.out.c2
    have c0VV := VV.out.c0
    have c1VV := VV.out.c1
    have c2VV := VV.out.c2
    go_wp2_with fail
    clear c0VU c1VU c2VU c0VV c1VV c2VV
    refine (HS1.out _ HU.out HV.out).mono ?_
    rintro e x2a ⟨rfl, hb⟩
    replace M1 := Lib.hid (M1.out.below hb)
    replace HA := Lib.hid (HA.out.below hb)
    replace VH := Lib.hid (VH.out.below hb)
    replace IG := Lib.hid (IG.out.below hb)
    replace VG := Lib.hid (VG.out.below hb)
    replace IW := Lib.hid (IW.out.below hb)
    replace VW := Lib.hid (VW.out.below hb)
    replace BP := Lib.hid (BP.out.below hb)
    replace BQ := Lib.hid (BQ.out.below hb)
    replace HU := Lib.hid (HU.out.below hb)
    replace HV := Lib.hid (HV.out.below hb)
    replace VU := Lib.hid (VU.out.below hb)
    replace VV := Lib.hid (VV.out.below hb)
    replace L := Lib.hid (bst L.out hb L.out.size)
    clear hb
    have c0VU := VU.out.c0
    have c1VU := VU.out.c1
    have c2VU := VU.out.c2
    have c0VV := VV.out.c0
    have c1VV := VV.out.c1
    have c2VV := VV.out.c2
    go_wp2_with fail
    clear c0VU c1VU c2VU c0VV c1VV c2VV
    refine (HS2.out _ HU.out HV.out).mono ?_
    rintro e x3a ⟨rfl, hb⟩
    replace M1 := Lib.hid (M1.out.below hb)
    replace HA := Lib.hid (HA.out.below hb)
    replace VH := Lib.hid (VH.out.below hb)
    replace IG := Lib.hid (IG.out.below hb)
    replace VG := Lib.hid (VG.out.below hb)
    replace IW := Lib.hid (IW.out.below hb)
    replace VW := Lib.hid (VW.out.below hb)
    replace BP := Lib.hid (BP.out.below hb)
    replace BQ := Lib.hid (BQ.out.below hb)
    replace HU := Lib.hid (HU.out.below hb)
    replace HV := Lib.hid (HV.out.below hb)
    replace VU := Lib.hid (VU.out.below hb)
    replace VV := Lib.hid (VV.out.below hb)
    replace L := Lib.hid (bst L.out hb L.out.size)
    clear hb
    go_wp2_with fail
    refine (d_ReachFrom _ z1 _ M1.out).mono ?_
    rintro e x4a ⟨aT, bT, cT, hT, vF, lF, rfl, hshT, hlF, hAT, hIF, hb⟩
    obtain ⟨paT, qaT, rfl⟩ := hAT.f.shape
    obtain ⟨pbT, qbT, rfl⟩ := hAT.l.shape
    obtain ⟨pcT, qcT, rfl⟩ := hAT.r.shape
    obtain ⟨pF, qF, rfl⟩ := hIF.shape
    replace M1 := Lib.hid (M1.out.below hb)
    replace HA := Lib.hid (HA.out.below hb)
    replace VH := Lib.hid (VH.out.below hb)
    replace IG := Lib.hid (IG.out.below hb)
    replace VG := Lib.hid (VG.out.below hb)
    replace IW := Lib.hid (IW.out.below hb)
    replace VW := Lib.hid (VW.out.below hb)
    replace BP := Lib.hid (BP.out.below hb)
    replace BQ := Lib.hid (BQ.out.below hb)
    replace HU := Lib.hid (HU.out.below hb)
    replace HV := Lib.hid (HV.out.below hb)
    replace VU := Lib.hid (VU.out.below hb)
    replace VV := Lib.hid (VV.out.below hb)
    replace L := Lib.hid (bst L.out hb L.out.size)
    have HT := Lib.hid hAT; have HI := Lib.hid hIF
    have HF1 := Lib.hid (fun w' q1 q2 => c_ReachFrom (.slice paT hT.f.length qaT) (.slice pbT hT.l.length qbT) (.slice pcT hT.r.length qcT) (.slice pF lF.length qF) hT lF w' q1 q2)
    have HF2 := Lib.hid (fun w' q1 q2 => s_ReachFrom (.slice paT hT.f.length qaT) (.slice pbT hT.l.length qbT) (.slice pcT hT.r.length qcT) (.slice pF lF.length qF) hT lF w' q1 q2)
    have HFB : Hid ((reachF hT lF).length ≤ 9223372036854775806) := by unfold Hid; have := reachF_len hT lF; omega
    clear hb hAT hIF hshT hlF
    generalize reachF hT lF = fb at *
    generalize fromOk hT lF = fo at *
    generalize hT.f.length = nfT at *
    generalize hT.l.length = nlT at *
    generalize hT.r.length = nrT at *
    generalize lF.length = nF at *
    obtain ⟨nR, hnr⟩ : ∃ q, fb.length = q := ⟨_, rfl⟩
    have NR := Lib.hid hnr
    clear hnr
    have hbq := below1 x4a (.cells (c3 (.slice paT nfT qaT) (.slice pbT nlT qbT) (.slice pcT nrT qcT)) 30)
    replace M1 := Lib.hid (M1.out.below hbq)
    replace HA := Lib.hid (HA.out.below hbq)
    replace VH := Lib.hid (VH.out.below hbq)
    replace IG := Lib.hid (IG.out.below hbq)
    replace VG := Lib.hid (VG.out.below hbq)
    replace IW := Lib.hid (IW.out.below hbq)
    replace VW := Lib.hid (VW.out.below hbq)
    replace BP := Lib.hid (BP.out.below hbq)
    replace BQ := Lib.hid (BQ.out.below hbq)
    replace HU := Lib.hid (HU.out.below hbq)
    replace HV := Lib.hid (HV.out.below hbq)
    replace VU := Lib.hid (VU.out.below hbq)
    replace VV := Lib.hid (VV.out.below hbq)
    replace HT := Lib.hid (HT.out.below hbq)
    replace HI := Lib.hid (HI.out.below hbq)
    replace L := Lib.hid (bst L.out hbq L.out.size)
    clear hbq
    have VT := Lib.hid (show RowH _ _ _ _ _ from Row.new x4a 30 (c3 (.slice paT nfT qaT) (.slice pbT nlT qbT) (.slice pcT nrT qcT)))
    have c0VT := VT.out.c0
    have c1VT := VT.out.c1
    have c2VT := VT.out.c2
    go_wp2_with fail
    clear c0VT c1VT c2VT
    refine (HF1.out _ HT.out HI.out).mono ?_
    intro e x5a hend
    obtain ⟨vX, rfl, hiX, hb⟩ := hend.reads6
    clear hend
    obtain ⟨pX, qX, rfl⟩ := hiX.shape
    replace M1 := Lib.hid (M1.out.below hb)
    replace HA := Lib.hid (HA.out.below hb)
    replace VH := Lib.hid (VH.out.below hb)
    replace IG := Lib.hid (IG.out.below hb)
    replace VG := Lib.hid (VG.out.below hb)
    replace IW := Lib.hid (IW.out.below hb)
    replace VW := Lib.hid (VW.out.below hb)
    replace BP := Lib.hid (BP.out.below hb)
    replace BQ := Lib.hid (BQ.out.below hb)
    replace HU := Lib.hid (HU.out.below hb)
    replace HV := Lib.hid (HV.out.below hb)
    replace VU := Lib.hid (VU.out.below hb)
    replace VV := Lib.hid (VV.out.below hb)
    replace HT := Lib.hid (HT.out.below hb)
    replace HI := Lib.hid (HI.out.below hb)
    replace VT := Lib.hid (VT.out.below hb)
    replace L := Lib.hid (bst L.out hb L.out.size)
    have BX := Lib.hid hiX
    clear hb hiX
    simp only [NR.out] at BX ⊢
    have c0VT := VT.out.c0
    have c1VT := VT.out.c1
    have c2VT := VT.out.c2
    go_wp2_with fail
    clear c0VT c1VT c2VT
    refine (HF2.out _ HT.out HI.out).mono ?_
    intro e x6a hend
    obtain ⟨vY, rfl, hiY, hb⟩ := hend.reads6
    clear hend
    obtain ⟨pY, qY, rfl⟩ := hiY.shape
    replace M1 := Lib.hid (M1.out.below hb)
    replace HA := Lib.hid (HA.out.below hb)
    replace VH := Lib.hid (VH.out.below hb)
    replace IG := Lib.hid (IG.out.below hb)
    replace VG := Lib.hid (VG.out.below hb)
    replace IW := Lib.hid (IW.out.below hb)
    replace VW := Lib.hid (VW.out.below hb)
    replace BP := Lib.hid (BP.out.below hb)
    replace BQ := Lib.hid (BQ.out.below hb)
    replace HU := Lib.hid (HU.out.below hb)
    replace HV := Lib.hid (HV.out.below hb)
    replace VU := Lib.hid (VU.out.below hb)
    replace VV := Lib.hid (VV.out.below hb)
    replace HT := Lib.hid (HT.out.below hb)
    replace HI := Lib.hid (HI.out.below hb)
    replace VT := Lib.hid (VT.out.below hb)
    replace BX := Lib.hid (BX.out.below hb)
    replace L := Lib.hid (bst L.out hb L.out.size)
    have BY := Lib.hid hiY
    clear hb hiY
    simp only [NR.out] at BY ⊢
    have e3 : (bo == bo) = true := by simp
    have e4 : (sq == sq) = true := by simp
    have e5 : (fo == fo) = true := by simp
    go_wp2_with fail
    refine (c_sameBools _ _ fb _ BX.out BY.out (by have := HFB.out; have := NR.out; omega)).mono ?_
    rintro e x7a ⟨rfl, nd, hnd⟩
    have hb : Below x6a.heap.size x6a x7a := by rw [hnd]; exact below_drewN (Below.refl _ _) nd
    clear hnd
    replace M1 := Lib.hid (M1.out.below hb)
    replace HA := Lib.hid (HA.out.below hb)
    replace VH := Lib.hid (VH.out.below hb)
    replace IG := Lib.hid (IG.out.below hb)
    replace VG := Lib.hid (VG.out.below hb)
    replace IW := Lib.hid (IW.out.below hb)
    replace VW := Lib.hid (VW.out.below hb)
    replace BP := Lib.hid (BP.out.below hb)
    replace BQ := Lib.hid (BQ.out.below hb)
    replace HU := Lib.hid (HU.out.below hb)
    replace HV := Lib.hid (HV.out.below hb)
    replace VU := Lib.hid (VU.out.below hb)
    replace VV := Lib.hid (VV.out.below hb)
    replace HT := Lib.hid (HT.out.below hb)
    replace HI := Lib.hid (HI.out.below hb)
    replace VT := Lib.hid (VT.out.below hb)
    replace BX := Lib.hid (BX.out.below hb)
    replace BY := Lib.hid (BY.out.below hb)
    replace L := Lib.hid (bst L.out hb L.out.size)
    clear hb nd
    go_wp2_with fail
    go_ret
    exact ⟨rfl, L.out⟩
  obtain ⟨g1, g2, g3, g4, g5, g6, g7, g8⟩ := FS.out rfl
  have HC3 := Lib.hid (fun w' q1 => c_ReachedIn (.slice paG nfS qaG) (.slice pbG nlS qbG) (.slice pcG nrS qcG) s w' q1)
  have HC4 := Lib.hid (fun w' q1 => c_CleanHeap (.slice paG nfS qaG) (.slice pbG nlS qbG) (.slice pcG nrS qcG) s w' q1)
  have HC5 := Lib.hid (fun w' q1 => c_GoodHeap (.slice paG nfS qaG) (.slice pbG nlS qbG) (.slice pcG nrS qcG) s w' q1)
  rw [g2, g3] at HSM
  rw [g4, g1] at HC3
  rw [g1, g6] at HC4
  rw [g1] at HC5
  have G5 := Lib.hid g5; have G7 := Lib.hid g7; have G8 := Lib.hid g8
  clear g1 g2 g3 g4 g5 g6 g7 g8 FS
  generalize (cleanP s).1 = s2 at *
  obtain ⟨nf2, hnf⟩ : ∃ q, s2.f.length = q := ⟨_, rfl⟩
  obtain ⟨nl2, hnl⟩ : ∃ q, s2.l.length = q := ⟨_, rfl⟩
  obtain ⟨nr2, hnr⟩ : ∃ q, s2.r.length = q := ⟨_, rfl⟩
  have N2f := Lib.hid hnf; have N2l := Lib.hid hnl; have N2r := Lib.hid hnr
  clear hnf hnl hnr
  have c0VH := VH.out.c0
  have c1VH := VH.out.c1
  have c2VH := VH.out.c2
  have c0VG := VG.out.c0
  have c1VG := VG.out.c1
  have c2VG := VG.out.c2
  go_wp2_with fail
  clear c0VH c1VH c2VH c0VG c1VG c2VG
  refine (HSM.out _ _ _ _ HA.out IG.out).mono ?_
  rintro e w9 ⟨rfl, hb⟩
  replace M1 := Lib.hid (M1.out.below hb)
  replace HA := Lib.hid (HA.out.below hb)
  replace VH := Lib.hid (VH.out.below hb)
  replace IG := Lib.hid (IG.out.below hb)
  replace VG := Lib.hid (VG.out.below hb)
  replace IW := Lib.hid (IW.out.below hb)
  replace VW := Lib.hid (VW.out.below hb)
  replace BP := Lib.hid (BP.out.below hb)
  replace BQ := Lib.hid (BQ.out.below hb)
  replace L := Lib.hid (bst L.out hb L.out.size)
  clear hb
  have c0VG := VG.out.c0
  have c1VG := VG.out.c1
  have c2VG := VG.out.c2
  go_wp2_with fail
  clear c0VG c1VG c2VG
  refine (HC3.out _ IG.out).mono ?_
  intro e w10 hend
  obtain ⟨vC, rfl, hiC, hb⟩ := hend.reads6
  clear hend
  obtain ⟨pC, qC, rfl⟩ := hiC.shape
  replace M1 := Lib.hid (M1.out.below hb)
  replace HA := Lib.hid (HA.out.below hb)
  replace VH := Lib.hid (VH.out.below hb)
  replace IG := Lib.hid (IG.out.below hb)
  replace VG := Lib.hid (VG.out.below hb)
  replace IW := Lib.hid (IW.out.below hb)
  replace VW := Lib.hid (VW.out.below hb)
  replace BP := Lib.hid (BP.out.below hb)
  replace BQ := Lib.hid (BQ.out.below hb)
  replace L := Lib.hid (bst L.out hb L.out.size)
  have BC := Lib.hid hiC
  clear hb hiC
  simp only [NB.out] at BC ⊢
  have c0VG := VG.out.c0
  have c1VG := VG.out.c1
  have c2VG := VG.out.c2
  go_wp2_with fail
  clear c0VG c1VG c2VG
  refine (HC4.out _ IG.out).mono ?_
  intro e w11 hend
  obtain ⟨aD, bD, cD, rfl, hiD, hb⟩ := hend.reads6
  clear hend
  obtain ⟨paD, qaD, rfl⟩ := hiD.f.shape
  obtain ⟨pbD, qbD, rfl⟩ := hiD.l.shape
  obtain ⟨pcD, qcD, rfl⟩ := hiD.r.shape
  replace M1 := Lib.hid (M1.out.below hb)
  replace HA := Lib.hid (HA.out.below hb)
  replace VH := Lib.hid (VH.out.below hb)
  replace IG := Lib.hid (IG.out.below hb)
  replace VG := Lib.hid (VG.out.below hb)
  replace IW := Lib.hid (IW.out.below hb)
  replace VW := Lib.hid (VW.out.below hb)
  replace BP := Lib.hid (BP.out.below hb)
  replace BQ := Lib.hid (BQ.out.below hb)
  replace BC := Lib.hid (BC.out.below hb)
  replace L := Lib.hid (bst L.out hb L.out.size)
  have ID := Lib.hid hiD
  clear hb hiD
  simp only [N2f.out, N2l.out, N2r.out] at ID ⊢
  have hbq := below1 w11 (.cells (c3 (.slice paD nf2 qaD) (.slice pbD nl2 qbD) (.slice pcD nr2 qcD)) 30)
  replace M1 := Lib.hid (M1.out.below hbq)
  replace HA := Lib.hid (HA.out.below hbq)
  replace VH := Lib.hid (VH.out.below hbq)
  replace IG := Lib.hid (IG.out.below hbq)
  replace VG := Lib.hid (VG.out.below hbq)
  replace IW := Lib.hid (IW.out.below hbq)
  replace VW := Lib.hid (VW.out.below hbq)
  replace BP := Lib.hid (BP.out.below hbq)
  replace BQ := Lib.hid (BQ.out.below hbq)
  replace BC := Lib.hid (BC.out.below hbq)
  replace ID := Lib.hid (ID.out.below hbq)
  replace L := Lib.hid (bst L.out hbq L.out.size)
  clear hbq
  have VD := Lib.hid (show RowH _ _ _ _ _ from Row.new w11 30 (c3 (.slice paD nf2 qaD) (.slice pbD nl2 qbD) (.slice pcD nr2 qcD)))
  have e6 : (((0 : Nat) : Int) != 0) = false := by simp
  have c0VG := VG.out.c0
  have c1VG := VG.out.c1
  have c2VG := VG.out.c2
  go_wp2_with fail
  clear c0VG c1VG c2VG
  refine (HC5.out _ IG.out).mono ?_
  rintro e w12 ⟨rfl, hb⟩
  replace M1 := Lib.hid (M1.out.below hb)
  replace HA := Lib.hid (HA.out.below hb)
  replace VH := Lib.hid (VH.out.below hb)
  replace IG := Lib.hid (IG.out.below hb)
  replace VG := Lib.hid (VG.out.below hb)
  replace IW := Lib.hid (IW.out.below hb)
  replace VW := Lib.hid (VW.out.below hb)
  replace BP := Lib.hid (BP.out.below hb)
  replace BQ := Lib.hid (BQ.out.below hb)
  replace BC := Lib.hid (BC.out.below hb)
  replace ID := Lib.hid (ID.out.below hb)
  replace VD := Lib.hid (VD.out.below hb)
  replace L := Lib.hid (bst L.out hb L.out.size)
  clear hb
  go_wp2_with fail
  refine (c_sameBools _ _ rb _ BC.out BP.out (by have := HBR.out; have := NB.out; omega)).mono ?_
  rintro e w13 ⟨rfl, nd, hnd⟩
  have hb : Below w12.heap.size w12 w13 := by rw [hnd]; exact below_drewN (Below.refl _ _) nd
  clear hnd
  replace M1 := Lib.hid (M1.out.below hb)
  replace HA := Lib.hid (HA.out.below hb)
  replace VH := Lib.hid (VH.out.below hb)
  replace IG := Lib.hid (IG.out.below hb)
  replace VG := Lib.hid (VG.out.below hb)
  replace IW := Lib.hid (IW.out.below hb)
  replace VW := Lib.hid (VW.out.below hb)
  replace BP := Lib.hid (BP.out.below hb)
  replace BQ := Lib.hid (BQ.out.below hb)
  replace BC := Lib.hid (BC.out.below hb)
  replace ID := Lib.hid (ID.out.below hb)
  replace VD := Lib.hid (VD.out.below hb)
  replace L := Lib.hid (bst L.out hb L.out.size)
  clear hb nd
  have c0VG := VG.out.c0
  have c1VG := VG.out.c1
  have c2VG := VG.out.c2
  go_wp2_with fail
  clear c0VG c1VG c2VG
  refine (c_sameBools _ _ rb _ (by have := IG.out.l; rw [G5.out] at this; exact this) BP.out (by have := HBR.out; have := NB.out; omega)).mono ?_
  rintro e w14 ⟨rfl, nd, hnd⟩
  have hb : Below w13.heap.size w13 w14 := by rw [hnd]; exact below_drewN (Below.refl _ _) nd
  clear hnd
  replace M1 := Lib.hid (M1.out.below hb)
  replace HA := Lib.hid (HA.out.below hb)
  replace VH := Lib.hid (VH.out.below hb)
  replace IG := Lib.hid (IG.out.below hb)
  replace VG := Lib.hid (VG.out.below hb)
  replace IW := Lib.hid (IW.out.below hb)
  replace VW := Lib.hid (VW.out.below hb)
  replace BP := Lib.hid (BP.out.below hb)
  replace BQ := Lib.hid (BQ.out.below hb)
  replace BC := Lib.hid (BC.out.below hb)
  replace ID := Lib.hid (ID.out.below hb)
  replace VD := Lib.hid (VD.out.below hb)
  replace L := Lib.hid (bst L.out hb L.out.size)
  clear hb nd
  have hBH : nB = nfH := by rw [← NB.out, G7.out]
  subst hBH
  have hn12 := HSN.out
  have c0 := VH.out.c0
  go_wp2_with fail
  clear c0
  go_loopw [160] (fun i wr => ∃ k : Nat, k ≤ nB ∧ i = .int .i64 (k : Int) ∧ ∃ nd, wr = w14.drewN nd) (fun i _ => nB - (intOf i).toNat)
  case atStart => exact ⟨0, Nat.zero_le _, rfl, drewN_refl _⟩
  case round =>
    obtain ⟨k, hk, rfl, nd, rfl⟩ := hrel
    by_cases hkl : k < nB
    · obtain ⟨fb, fo, rfl, hcf⟩ := HA.out.f.at' (by omega)
      obtain ⟨u, quf, huf⟩ := hcf k hkl
      obtain ⟨ua, uc, rfl⟩ := huf.shape
      obtain ⟨rB, ro, rfl, hcr⟩ := BP.out.at' (by omega)
      have HCR := Lib.hid hcr
      have qr : (w14.drewN nd).cell? ⟨rB, ro + k, none⟩ = some (.bool (rb.getD k false)) := hcr k hkl
      have c0 : (w14.drewN nd).cell? ⟨w1.heap.size, 0, none⟩ = some (.slice (some ⟨fb, fo, none⟩) nB qaH) := VH.out.c0
      have cf : (w14.drewN nd).cell? ⟨fb, fo + k, none⟩ = some (.slice ua (h.f.getD k []).length uc) := quf
      have HUF := Lib.hid huf
      have hr3 := HSR.out k
      have HY := Lib.hid (G8.out k)
      have k1 : (k : Int) < (nB : Int) := by omega
      have k0 : (0 : Int) ≤ (k : Int) := by omega
      clear hcf hcr quf huf
      generalize h.f.getD k [] = row at *
      generalize hul : row.length = ul at *
      have HUL := Lib.hid hul; clear hul
      generalize rb.getD k false = is at *
      go_wp2_with fail
      clear c0 cf qr
      go_loopw [171] (fun i wr => ∃ i2 : Nat, i2 ≤ ul ∧ i = .int .i64 (i2 : Int) ∧ ∃ nd, wr = w14.drewN nd) (fun i _ => ul - (intOf i).toNat)
      case atStart => exact ⟨0, Nat.zero_le _, rfl, nd, rfl⟩
      case round =>
        obtain ⟨i, hi, rfl, nd, rfl⟩ := hrel
        by_cases hil : i < ul
        · obtain ⟨tb, to, rfl, hct⟩ := HUF.out.at' (by omega)
          have d5 : (w14.drewN nd).cell? ⟨tb, to + i, none⟩ = some (.int .i64 (row.getD i 0)) := hct i hil
          have i1 : (i : Int) < (ul : Int) := by omega
          have i0 : (0 : Int) ≤ (i : Int) := by omega
          have hy : Hid (is = true → 0 ≤ row.getD i 0 → rb.getD (row.getD i 0).toNat false = true) := fun q1 q2 => HY.out q1 _ (getD_memI (by rw [HUL.out]; exact hil)) q2
          clear hct
          generalize row.getD i 0 = y at *
          cases is
          · go_wp2_with fail
            go_roundw
            case rel => exact ⟨i + 1, by omega, by go_num, nd, rfl⟩
            case measure => simp [intOf]; omega
          · by_cases y0 : 0 ≤ y
            · obtain ⟨t, rfl⟩ : ∃ t : Nat, y = t := ⟨y.toNat, by omega⟩
              have hyt := hy.out rfl y0
              rw [Int.toNat_natCast] at hyt
              have htl : t < nB := by have := getD_lt hyt; rw [NB.out] at this; exact this
              have qy : (w14.drewN nd).cell? ⟨rB, ro + t, none⟩ = some (.bool (rb.getD t false)) := HCR.out t htl
              rw [hyt] at qy
              have t1 : (t : Int) < (nB : Int) := by omega
              clear hyt hy
              go_wp2_with fail
              go_roundw
              case rel => exact ⟨i + 1, by omega, by go_num, nd, rfl⟩
              case measure => simp [intOf]; omega
            · clear hy
              go_wp2_with fail
              go_roundw
              case rel => exact ⟨i + 1, by omega, by go_num, nd, rfl⟩
              case measure => simp [intOf]; omega
        · have in' : ¬ (i : Int) < (ul : Int) := by omega
          go_wp2_with fail
          go_roundw
          case rel => exact ⟨k + 1, by omega, by go_num, nd, rfl⟩
          case measure => simp [intOf]; omega
    · obtain rfl : k = nB := by omega
      have kn : ¬ (k : Int) < (k : Int) := by omega
      have hb : Below w14.heap.size w14 (w14.drewN nd) := below_drewN (Below.refl _ _) nd
      replace M1 := Lib.hid (M1.out.below hb)
      replace HA := Lib.hid (HA.out.below hb)
      replace VH := Lib.hid (VH.out.below hb)
      replace IG := Lib.hid (IG.out.below hb)
      replace VG := Lib.hid (VG.out.below hb)
      replace IW := Lib.hid (IW.out.below hb)
      replace VW := Lib.hid (VW.out.below hb)
      replace BP := Lib.hid (BP.out.below hb)
      replace BQ := Lib.hid (BQ.out.below hb)
      replace BC := Lib.hid (BC.out.below hb)
      replace ID := Lib.hid (ID.out.below hb)
      replace VD := Lib.hid (VD.out.below hb)
      replace L := Lib.hid (bst L.out hb L.out.size)
      clear hb
      generalize w14.drewN nd = w15 at *
      go_wp2_with fail
      refine (d_SameReached _ z1 _ M1.out).mono ?_
      rintro e x1b ⟨aU, bU, cU, hU, aV, bV, cV, hV, rfl, hAU, hAV, hb⟩
      obtain ⟨paU, qaU, rfl⟩ := hAU.f.shape
      obtain ⟨pbU, qbU, rfl⟩ := hAU.l.shape
      obtain ⟨pcU, qcU, rfl⟩ := hAU.r.shape
      obtain ⟨paV, qaV, rfl⟩ := hAV.f.shape
      obtain ⟨pbV, qbV, rfl⟩ := hAV.l.shape
      obtain ⟨pcV, qcV, rfl⟩ := hAV.r.shape
      replace M1 := Lib.hid (M1.out.below hb)
      replace HA := Lib.hid (HA.out.below hb)
      replace VH := Lib.hid (VH.out.below hb)
      replace IG := Lib.hid (IG.out.below hb)
      replace VG := Lib.hid (VG.out.below hb)
      replace IW := Lib.hid (IW.out.below hb)
      replace VW := Lib.hid (VW.out.below hb)
      replace BP := Lib.hid (BP.out.below hb)
      replace BQ := Lib.hid (BQ.out.below hb)
      replace BC := Lib.hid (BC.out.below hb)
      replace ID := Lib.hid (ID.out.below hb)
      replace VD := Lib.hid (VD.out.below hb)
      replace L := Lib.hid (bst L.out hb L.out.size)
      have HU := Lib.hid hAU; have HV := Lib.hid hAV
      have HS1 := Lib.hid (fun w' q1 q2 => c_SameReached (.slice paU hU.f.length qaU) (.slice pbU hU.l.length qbU) (.slice pcU hU.r.length qcU) (.slice paV hV.f.length qaV) (.slice pbV hV.l.length qbV) (.slice pcV hV.r.length qcV) hU hV w' q1 q2)
      have HS2 := Lib.hid (fun w' q1 q2 => s_SameReached (.slice paU hU.f.length qaU) (.slice pbU hU.l.length qbU) (.slice pcU hU.r.length qcU) (.slice paV hV.f.length qaV) (.slice pbV hV.l.length qbV) (.slice pcV hV.r.length qcV) hU hV w' q1 q2)
      clear hb hAU hAV
      generalize sameQ hU hV = sq at *
      generalize Ph.both hU hV = bo at *
      generalize hU.f.length = nfU at *
      generalize hU.l.length = nlU at *
      generalize hU.r.length = nrU at *
      generalize hV.f.length = nfV at *
      generalize hV.l.length = nlV at *
      generalize hV.r.length = nrV at *
      have hbq := (below1 x1b (.cells (c3 (.slice paU nfU qaU) (.slice pbU nlU qbU) (.slice pcU nrU qcU)) 30)).alloc (by simp) (.cells (c3 (.slice paV nfV qaV) (.slice pbV nlV qbV) (.slice pcV nrV qcV)) 30)
      replace M1 := Lib.hid (M1.out.below hbq)
      replace HA := Lib.hid (HA.out.below hbq)
      replace VH := Lib.hid (VH.out.below hbq)
      replace IG := Lib.hid (IG.out.below hbq)
      replace VG := Lib.hid (VG.out.below hbq)
      replace IW := Lib.hid (IW.out.below hbq)
      replace VW := Lib.hid (VW.out.below hbq)
      replace BP := Lib.hid (BP.out.below hbq)
      replace BQ := Lib.hid (BQ.out.below hbq)
      replace BC := Lib.hid (BC.out.below hbq)
      replace ID := Lib.hid (ID.out.below hbq)
      replace VD := Lib.hid (VD.out.below hbq)
      replace HU := Lib.hid (HU.out.below hbq)
      replace HV := Lib.hid (HV.out.below hbq)
      replace L := Lib.hid (bst L.out hbq L.out.size)
      clear hbq
      have VU := Lib.hid (show RowH ((x1b.alloc (.cells (c3 (.slice paU nfU qaU) (.slice pbU nlU qbU) (.slice pcU nrU qcU)) 30)).alloc (.cells (c3 (.slice paV nfV qaV) (.slice pbV nlV qbV) (.slice pcV nrV qcV)) 30)) x1b.heap.size _ _ _ from (Row.new x1b 30 (c3 (.slice paU nfU qaU) (.slice pbU nlU qbU) (.slice pcU nrU qcU))).alloc (.cells (c3 (.slice paV nfV qaV) (.slice pbV nlV qbV) (.slice pcV nrV qcV)) 30))
      have VV := Lib.hid (show RowH ((x1b.alloc (.cells (c3 (.slice paU nfU qaU) (.slice pbU nlU qbU) (.slice pcU nrU qcU)) 30)).alloc (.cells (c3 (.slice paV nfV qaV) (.slice pbV nlV qbV) (.slice pcV nrV qcV)) 30)) (x1b.heap.size + 1) _ _ _ from Row.new1 x1b (.cells (c3 (.slice paU nfU qaU) (.slice pbU nlU qbU) (.slice pcU nrU qcU)) 30) 30 (c3 (.slice paV nfV qaV) (.slice pbV nlV qbV) (.slice pcV nrV qcV)))
      have c0VU := VU.out.c0
      have c1VU := VU.out.c1
      have c2VU := VU.out.c2
      have c0VV := VV.out.c0
      have c1VV := VV.out.c1
      have c2VV := VV.out.c2
      go_wp2_with fail
      clear c0VU c1VU c2VU c0VV c1VV c2VV
      refine (HS1.out _ HU.out HV.out).mono ?_
      rintro e x2b ⟨rfl, hb⟩
      replace M1 := Lib.hid (M1.out.below hb)
      replace HA := Lib.hid (HA.out.below hb)
      replace VH := Lib.hid (VH.out.below hb)
      replace IG := Lib.hid (IG.out.below hb)
      replace VG := Lib.hid (VG.out.below hb)
      replace IW := Lib.hid (IW.out.below hb)
      replace VW := Lib.hid (VW.out.below hb)
      replace BP := Lib.hid (BP.out.below hb)
      replace BQ := Lib.hid (BQ.out.below hb)
      replace BC := Lib.hid (BC.out.below hb)
      replace ID := Lib.hid (ID.out.below hb)
      replace VD := Lib.hid (VD.out.below hb)
      replace HU := Lib.hid (HU.out.below hb)
      replace HV := Lib.hid (HV.out.below hb)
      replace VU := Lib.hid (VU.out.below hb)
      replace VV := Lib.hid (VV.out.below hb)
      replace L := Lib.hid (bst L.out hb L.out.size)
      clear hb
      have c0VU := VU.out.c0
      have c1VU := VU.out.c1
      have c2VU := VU.out.c2
      have c0VV := VV.out.c0
      have c1VV := VV.out.c1
      have c2VV := VV.out.c2
      go_wp2_with fail
      clear c0VU c1VU c2VU c0VV c1VV c2VV
      refine (HS2.out _ HU.out HV.out).mono ?_
      rintro e x3b ⟨rfl, hb⟩
      replace M1 := Lib.hid (M1.out.below hb)
      replace HA := Lib.hid (HA.out.below hb)
      replace VH := Lib.hid (VH.out.below hb)
      replace IG := Lib.hid (IG.out.below hb)
      replace VG := Lib.hid (VG.out.below hb)
      replace IW := Lib.hid (IW.out.below hb)
      replace VW := Lib.hid (VW.out.below hb)
      replace BP := Lib.hid (BP.out.below hb)
      replace BQ := Lib.hid (BQ.out.below hb)
      replace BC := Lib.hid (BC.out.below hb)
      replace ID := Lib.hid (ID.out.below hb)
      replace VD := Lib.hid (VD.out.below hb)
      replace HU := Lib.hid (HU.out.below hb)
      replace HV := Lib.hid (HV.out.below hb)
      replace VU := Lib.hid (VU.out.below hb)
      replace VV := Lib.hid (VV.out.below hb)
      replace L := Lib.hid (bst L.out hb L.out.size)
      clear hb
      go_wp2_with fail
      refine (d_ReachFrom _ z1 _ M1.out).mono ?_
      rintro e x4b ⟨aT, bT, cT, hT, vF, lF, rfl, hshT, hlF, hAT, hIF, hb⟩
      obtain ⟨paT, qaT, rfl⟩ := hAT.f.shape
      obtain ⟨pbT, qbT, rfl⟩ := hAT.l.shape
      obtain ⟨pcT, qcT, rfl⟩ := hAT.r.shape
      obtain ⟨pF, qF, rfl⟩ := hIF.shape
      replace M1 := Lib.hid (M1.out.below hb)
      replace HA := Lib.hid (HA.out.below hb)
      replace VH := Lib.hid (VH.out.below hb)
      replace IG := Lib.hid (IG.out.below hb)
      replace VG := Lib.hid (VG.out.below hb)
      replace IW := Lib.hid (IW.out.below hb)
      replace VW := Lib.hid (VW.out.below hb)
      replace BP := Lib.hid (BP.out.below hb)
      replace BQ := Lib.hid (BQ.out.below hb)
      replace BC := Lib.hid (BC.out.below hb)
      replace ID := Lib.hid (ID.out.below hb)
      replace VD := Lib.hid (VD.out.below hb)
      replace HU := Lib.hid (HU.out.below hb)
      replace HV := Lib.hid (HV.out.below hb)
      replace VU := Lib.hid (VU.out.below hb)
      replace VV := Lib.hid (VV.out.below hb)
      replace L := Lib.hid (bst L.out hb L.out.size)
      have HT := Lib.hid hAT; have HI := Lib.hid hIF
      have HF1 := Lib.hid (fun w' q1 q2 => c_ReachFrom (.slice paT hT.f.length qaT) (.slice pbT hT.l.length qbT) (.slice pcT hT.r.length qcT) (.slice pF lF.length qF) hT lF w' q1 q2)
      have HF2 := Lib.hid (fun w' q1 q2 => s_ReachFrom (.slice paT hT.f.length qaT) (.slice pbT hT.l.length qbT) (.slice pcT hT.r.length qcT) (.slice pF lF.length qF) hT lF w' q1 q2)
      have HFB : Hid ((reachF hT lF).length ≤ 9223372036854775806) := by unfold Hid; have := reachF_len hT lF; omega
      clear hb hAT hIF hshT hlF
      generalize reachF hT lF = fb at *
      generalize fromOk hT lF = fo at *
      generalize hT.f.length = nfT at *
      generalize hT.l.length = nlT at *
      generalize hT.r.length = nrT at *
      generalize lF.length = nF at *
      obtain ⟨nR, hnr⟩ : ∃ q, fb.length = q := ⟨_, rfl⟩
      have NR := Lib.hid hnr
      clear hnr
      have hbq := below1 x4b (.cells (c3 (.slice paT nfT qaT) (.slice pbT nlT qbT) (.slice pcT nrT qcT)) 30)
      replace M1 := Lib.hid (M1.out.below hbq)
      replace HA := Lib.hid (HA.out.below hbq)
      replace VH := Lib.hid (VH.out.below hbq)
      replace IG := Lib.hid (IG.out.below hbq)
      replace VG := Lib.hid (VG.out.below hbq)
      replace IW := Lib.hid (IW.out.below hbq)
      replace VW := Lib.hid (VW.out.below hbq)
      replace BP := Lib.hid (BP.out.below hbq)
      replace BQ := Lib.hid (BQ.out.below hbq)
      replace BC := Lib.hid (BC.out.below hbq)
      replace ID := Lib.hid (ID.out.below hbq)
      replace VD := Lib.hid (VD.out.below hbq)
      replace HU := Lib.hid (HU.out.below hbq)
      replace HV := Lib.hid (HV.out.below hbq)
      replace VU := Lib.hid (VU.out.below hbq)
      replace VV := Lib.hid (VV.out.below hbq)
      replace HT := Lib.hid (HT.out.below hbq)
      replace HI := Lib.hid (HI.out.below hbq)
      replace L := Lib.hid (bst L.out hbq L.out.size)
      clear hbq
      have VT := Lib.hid (show RowH _ _ _ _ _ from Row.new x4b 30 (c3 (.slice paT nfT qaT) (.slice pbT nlT qbT) (.slice pcT nrT qcT)))
      have c0VT := VT.out.c0
      have c1VT := VT.out.c1
      have c2VT := VT.out.c2
      go_wp2_with fail
      clear c0VT c1VT c2VT
      refine (HF1.out _ HT.out HI.out).mono ?_
      intro e x5b hend
      obtain ⟨vX, rfl, hiX, hb⟩ := hend.reads6
      clear hend
      obtain ⟨pX, qX, rfl⟩ := hiX.shape
      replace M1 := Lib.hid (M1.out.below hb)
      replace HA := Lib.hid (HA.out.below hb)
      replace VH := Lib.hid (VH.out.below hb)
      replace IG := Lib.hid (IG.out.below hb)
      replace VG := Lib.hid (VG.out.below hb)
      replace IW := Lib.hid (IW.out.below hb)
      replace VW := Lib.hid (VW.out.below hb)
      replace BP := Lib.hid (BP.out.below hb)
      replace BQ := Lib.hid (BQ.out.below hb)
      replace BC := Lib.hid (BC.out.below hb)
      replace ID := Lib.hid (ID.out.below hb)
      replace VD := Lib.hid (VD.out.below hb)
      replace HU := Lib.hid (HU.out.below hb)
      replace HV := Lib.hid (HV.out.below hb)
      replace VU := Lib.hid (VU.out.below hb)
      replace VV := Lib.hid (VV.out.below hb)
      replace HT := Lib.hid (HT.out.below hb)
      replace HI := Lib.hid (HI.out.below hb)
      replace VT := Lib.hid (VT.out.below hb)
      replace L := Lib.hid (bst L.out hb L.out.size)
      have BX := Lib.hid hiX
      clear hb hiX
      simp only [NR.out] at BX ⊢
      have c0VT := VT.out.c0
      have c1VT := VT.out.c1
      have c2VT := VT.out.c2
      go_wp2_with fail
      clear c0VT c1VT c2VT
      refine (HF2.out _ HT.out HI.out).mono ?_
      intro e x6b hend
      obtain ⟨vY, rfl, hiY, hb⟩ := hend.reads6
      clear hend
      obtain ⟨pY, qY, rfl⟩ := hiY.shape
      replace M1 := Lib.hid (M1.out.below hb)
      replace HA := Lib.hid (HA.out.below hb)
      replace VH := Lib.hid (VH.out.below hb)
      replace IG := Lib.hid (IG.out.below hb)
      replace VG := Lib.hid (VG.out.below hb)
      replace IW := Lib.hid (IW.out.below hb)
      replace VW := Lib.hid (VW.out.below hb)
      replace BP := Lib.hid (BP.out.below hb)
      replace BQ := Lib.hid (BQ.out.below hb)
      replace BC := Lib.hid (BC.out.below hb)
      replace ID := Lib.hid (ID.out.below hb)
      replace VD := Lib.hid (VD.out.below hb)
      replace HU := Lib.hid (HU.out.below hb)
      replace HV := Lib.hid (HV.out.below hb)
      replace VU := Lib.hid (VU.out.below hb)
      replace VV := Lib.hid (VV.out.below hb)
      replace HT := Lib.hid (HT.out.below hb)
      replace HI := Lib.hid (HI.out.below hb)
      replace VT := Lib.hid (VT.out.below hb)
      replace BX := Lib.hid (BX.out.below hb)
      replace L := Lib.hid (bst L.out hb L.out.size)
      have BY := Lib.hid hiY
      clear hb hiY
      simp only [NR.out] at BY ⊢
      have e3 : (bo == bo) = true := by simp
      have e4 : (sq == sq) = true := by simp
      have e5 : (fo == fo) = true := by simp
      go_wp2_with fail
      refine (c_sameBools _ _ fb _ BX.out BY.out (by have := HFB.out; have := NR.out; omega)).mono ?_
      rintro e x7b ⟨rfl, nd, hnd⟩
      have hb : Below x6b.heap.size x6b x7b := by rw [hnd]; exact below_drewN (Below.refl _ _) nd
      clear hnd
      replace M1 := Lib.hid (M1.out.below hb)
      replace HA := Lib.hid (HA.out.below hb)
      replace VH := Lib.hid (VH.out.below hb)
      replace IG := Lib.hid (IG.out.below hb)
      replace VG := Lib.hid (VG.out.below hb)
      replace IW := Lib.hid (IW.out.below hb)
      replace VW := Lib.hid (VW.out.below hb)
      replace BP := Lib.hid (BP.out.below hb)
      replace BQ := Lib.hid (BQ.out.below hb)
      replace BC := Lib.hid (BC.out.below hb)
      replace ID := Lib.hid (ID.out.below hb)
      replace VD := Lib.hid (VD.out.below hb)
      replace HU := Lib.hid (HU.out.below hb)
      replace HV := Lib.hid (HV.out.below hb)
      replace VU := Lib.hid (VU.out.below hb)
      replace VV := Lib.hid (VV.out.below hb)
      replace HT := Lib.hid (HT.out.below hb)
      replace HI := Lib.hid (HI.out.below hb)
      replace VT := Lib.hid (VT.out.below hb)
      replace BX := Lib.hid (BX.out.below hb)
      replace BY := Lib.hid (BY.out.below hb)
      replace L := Lib.hid (bst L.out hb L.out.size)
      clear hb nd
      go_wp2_with fail
      go_ret
      exact ⟨rfl, L.out⟩
end Go.Proofs.Ytkkigoamphkalaa
namespace Go.Proofs.Ytkkigoamphkalaa.xCleaned
open Go.ChangeShapes Go.WideShapes Go.ChangeAt Go.RowKit

set_option maxRecDepth 100000 in
theorem contract (H : Type) (enc : TypeId × Value → H) (W : World) (base : Nat) (args : Array Value) (ds gs : List (DataW H)) (before : List MemPlace)
    (hval : ∀ (j : Nat) t v, Try.f11.params[j]? = some t → args[j]? = some v → Value.okWide Try.prog W .any base t v)
    (hW : DataW.Whole enc Try.prog Try.f11.params.toList Rows.fnCleanedSpec.vars false W args.toList ds gs before) :
    Calls Try.prog 11 args W fun e W' => ∃ v, e = .returned v ∧ Rows.fnCleanedSpec.post enc Try.prog Try.f11 false true false false W args v W' := by
  have hW' := hW
  obtain ⟨p, q, hA0, hV, rfl, hfz, hnd⟩ := hW
  have hA : DataW.TrodAll enc Try.prog W 0 (fun _ => true) true Try.f11.params.toList args.toList ds p := hA0
  have hpar : ∀ t ∈ Try.f11.params.toList, Try.prog.readableRec t = true ∧ t < Try.prog.types.size := by
    rw [Try.params11]; intro t ht; simp at ht; subst ht; exact r_bytes
  rw [Try.params11] at hA hval
  obtain ⟨v0, vs0, d0, ds0, p0, q0, hargs, rfl, rfl, h0, r0⟩ := trodAll_cons hA
  obtain ⟨v1, vs1, d1, ds1, p1, q1, rfl, rfl, rfl, h1, r1⟩ := trodAll_cons r0
  obtain ⟨rfl, rfl, rfl⟩ := trodAll_nil r1
  obtain rfl : args = #[v0, v1] := by cases args; simp_all
  obtain ⟨rfl, rfl⟩ := trodVars_none hV
  obtain ⟨z0, hz0⟩ := bytes_of_arg (hval 0 75 v0 rfl rfl) h0
  obtain ⟨z1, hz1⟩ := bytes_of_arg (hval 1 75 v1 rfl rfl) h1
  refine (walk_FnCleaned v0 z0 v1 z1 W hz0 hz1).mono fun e W' ⟨he, hb⟩ => ?_
  subst he
  exact ⟨_, rfl, law_post laidOut hpar (fun n hn => by cases hn) hW' hb rfl (by kernel_rfl) Try.underlying4⟩

set_option maxRecDepth 100000 in
theorem lifted (os : Os) (started : os.Started) (H : Type) (enc : TypeId × Value → H) :
    ReturnsInHanded {} Try.checked os 11 .any (Rows.fnCleanedSpec.pre6 enc Try.prog Try.f11 Rows.fnCleanedRow.domain false) (Rows.fnCleanedSpec.post enc Try.prog Try.f11 false true false false) := by
  refine returnsInHanded_of_change (C := Try.checked) own started (by kernel_rfl) Try.func11
    (ChangeSpec.witness6 (enc := enc) (C := Try.checked) false ⟨#[], #[.slice none 0 0, .slice none 0 0], []⟩ 8 (by kernel_rfl) (by kernel_rfl) (by kernel_rfl) (by kernel_rfl)) ?_
  intro W base args ds gs before hval hW _ _
  exact contract H enc W base args ds gs before hval hW
end Go.Proofs.Ytkkigoamphkalaa.xCleaned
namespace Go.Proofs.Ytkkigoamphkalaa
theorem xCleaned_said : Rows.FnCleanedSaid :=
  OpenClaim.holds_of_wide 11 Try.f11 rfl rfl rfl rfl rfl rfl rfl ⟨rfl, rfl, rfl, rfl, rfl⟩ rfl rfl rfl rfl rfl (by kernel_rfl) Try.func11 (by kernel_rfl)
    (of_decide_eq_true (by kernel_rfl)) (by unfold Func.isWrapper; first | (rw [if_pos (by decide +kernel)]; kernel_rfl) | (rw [if_neg (by decide +kernel)]; exact ⟨rfl, rfl⟩))
    (fun os started H enc _ => xCleaned.lifted os started H enc)
end Go.Proofs.Ytkkigoamphkalaa
