/- laws.FnMarked: for every input the law answers true, and the input reads as it did. No condition. -/
import Derived.Test.YtkkigoamphkalaaQF6
namespace Go.Proofs.Ytkkigoamphkalaa.Ph
/-- What a marking leaves. -/
theorem mark_facts {h : H} {zs : List Int} (hok : markOk h zs = true) : good h = true ∧ bothB h (markR h zs).1 = true ∧ soundR h (markR h zs).1 = true ∧ markOk h [] = true ∧ (markR h []).1 = (markR h zs).1 ∧ (markR h []).2 = (markR h zs).2 ∧ (reachR h).length = (markR h zs).1.length ∧ (∀ i, (markR h zs).1.getD i 0 = if (reachR h).getD i false = true then 2 else 0) ∧ (markR h zs).2 = blk (markR h zs).1 (markR h zs).1.length ∧ (markR h zs).1.length ≤ 12 := by
  have hg : good h = true := by unfold markOk at hok; exact (Bool.and_eq_true _ _ ▸ hok).1
  have g := good_iff.1 hg
  have hok2 : markOk h [] = true := by unfold markOk; rw [hg]; rfl
  have e1 : (markR h zs).1 = endC h ∧ (markR h zs).2 = endN h := by unfold markR; rw [hok]; exact ⟨rfl, rfl⟩
  have e2 : (markR h []).1 = endC h ∧ (markR h []).2 = endN h := by unfold markR; rw [hok2]; exact ⟨rfl, rfl⟩
  have hr : reachR h = reachL h.f h.r := reachR_yes hg
  have col : Col (endC h) := fun i => by rw [endC_get]; split <;> omega
  have hb : bothB h (endC h) = true := bothB_iff.2 ⟨g, endC_len h, col⟩
  have hs : soundB h (endC h) = true := soundB_iff.2 fun k hk h2 => by
    unfold noWhite
    rw [List.all_eq_true]
    intro x hx
    rw [endC_get] at h2
    have rk : (reachL h.f h.r).getD k false = true := by
      by_cases q : (reachL h.f h.r).getD k false = true
      · exact q
      · rw [if_neg q] at h2; omega
    by_cases x0 : 0 ≤ x
    · have hxn : (endC h).getD x.toNat 0 ≠ 0 := by
        have hx' : ((x.toNat : Nat) : Int) ∈ h.f.getD k [] := by rw [Int.toNat_of_nonneg x0]; exact hx
        have : (reachL h.f h.r).getD x.toNat false = true := reachL_getD.2 ⟨g.fieldIn hx', .step (reachL_getD.1 rk).2 hx'⟩
        rw [endC_get, if_pos this]; omega
      rw [decide_eq_false hxn]; simp
    · rw [decide_eq_false x0]; simp
  rw [e1.1, e1.2, e2.1, e2.2]
  refine ⟨hg, hb, by rw [soundR_yes hb]; exact hs, hok2, rfl, rfl, by rw [hr, reachL_length, endC_len], fun i => by rw [endC_get, hr], by rw [endC_len]; rfl, by rw [endC_len]; exact g.n⟩
end Go.Proofs.Ytkkigoamphkalaa.Ph
namespace Go.Proofs.Ytkkigoamphkalaa
open Go.RowKit Ph

theorem EndI.reads' {zs : List Int} {ok : Bool} {w w' : World} {e : Ending} (h : EndI zs ok w e w') : ∃ v, e = .returned (.tuple #[v, .bool ok]) ∧ IntsAt w' v zs ∧ Below w.heap.size w w' := by
  obtain ⟨v, h1, h2, h3⟩ := h
  exact ⟨v, h1, h2.reads.r, h3⟩
theorem EndII.reads {zs : List Int} {n : Int} {ok : Bool} {w w' : World} {e : Ending} (h : EndII zs n ok w e w') : ∃ v, e = .returned (.tuple #[v, .int .i64 n, .bool ok]) ∧ IntsAt w' v zs ∧ Below w.heap.size w w' := by
  obtain ⟨v, h1, h2, h3⟩ := h
  exact ⟨v, h1, h2.reads.r, h3⟩
theorem EndB.reads {bs : List Bool} {ok : Bool} {w w' : World} {e : Ending} (h : EndB bs ok w e w') : ∃ v, e = .returned (.tuple #[v, .bool ok]) ∧ BoolsAt w' v bs ∧ Below w.heap.size w w' := by
  obtain ⟨v, h1, h2, h3⟩ := h
  exact ⟨v, h1, h2.reads.l, h3⟩
set_option maxHeartbeats 12800000 in
set_option maxRecDepth 100000 in
theorem walk_FnMarked (v0 : Value) (z0 : List Int) (v1 : Value) (z1 : List Int) (w : World) (hz0 : BytesAt w v0 z0) (hz1 : BytesAt w v1 z1) : Calls Try.prog 13 #[v0, v1] w fun e w' => e = .returned (.bool true) ∧ Below w.heap.size w w' := by
  obtain ⟨_, _, a0, ca0, hv0, _⟩ := id hz0
  obtain ⟨_, _, a2, ca2, hv2, _⟩ := id hz1
  have HZ := Lib.hid hz0; have M1 := Lib.hid hz1; clear hz0 hz1
  subst hv0
  subst hv2
  generalize hn : z0.length = n at *
  generalize hn2 : z1.length = n2 at *
  clear hn hn2
  by_cases hm : 1048576 < Go.RowKit.wrap64 ((n : Int) + (n2 : Int))
  · go_enter Try.func13, Try.ntmps13
    go_wp2
    go_ret
    exact ⟨rfl, Below.refl _ _⟩
  have L := Lib.hid (Below.refl w.heap.size w)
  go_enter Try.func13, Try.ntmps13
  go_wp2_with fail
  refine (d_MarkAll _ z0 _ HZ.out).mono ?_
  rintro e w1 ⟨a, b, cc, h, v, l, rfl, hsh, hl20, hA, hI, hb⟩
  clear HZ
  obtain ⟨pa, qa, rfl⟩ := hA.f.shape
  obtain ⟨pb, qb, rfl⟩ := hA.l.shape
  obtain ⟨pc, qc, rfl⟩ := hA.r.shape
  obtain ⟨pv, qv, rfl⟩ := hI.shape
  have HA := Lib.hid hA; have HI := Lib.hid hI
  have FS := Lib.hid (mark_facts (h := h) (zs := l))
  have HLS : Hid (∀ X : List Int, X = (markR h l).1 → X.length ≤ 1000) := fun X q => by rw [q]; exact markR_len h l
  have HC1 := Lib.hid (fun w' q1 q2 => c_MarkAll (.slice pa h.f.length qa) (.slice pb h.l.length qb) (.slice pc h.r.length qc) (.slice pv l.length qv) h l w' q1 q2)
  have HC2 := Lib.hid (fun w' q1 q2 => s_MarkAll (.slice pa h.f.length qa) (.slice pb h.l.length qb) (.slice pc h.r.length qc) (.slice pv l.length qv) h l w' q1 q2)
  have HC3 := Lib.hid (fun w' q1 => c_MarkAll (.slice pa h.f.length qa) (.slice pb h.l.length qb) (.slice pc h.r.length qc) (.slice none 0 0) h [] w' q1 ⟨none, 0, rfl, fun q => by simp at q⟩)
  have HC4 := Lib.hid (fun w' q1 => c_ReachedIn (.slice pa h.f.length qa) (.slice pb h.l.length qb) (.slice pc h.r.length qc) h w' q1)
  have HC5 := Lib.hid (fun w' vv q1 q2 => c_IsSound (.slice pa h.f.length qa) (.slice pb h.l.length qb) (.slice pc h.r.length qc) vv h (markR h l).1 w' q1 q2)
  clear hA hI hsh
  generalize (markR h l).1 = s at *
  generalize (markR h l).2 = ns at *
  generalize markOk h l = ok at *
  generalize (markR h []).1 = s' at *
  generalize (markR h []).2 = ns' at *
  generalize markOk h [] = ok' at *
  generalize reachR h = rb at *
  generalize good h = gd at *
  generalize bothB h s = bo at *
  generalize soundR h s = so at *
  generalize h.f.length = nf at *
  generalize h.l.length = nl at *
  generalize h.r.length = nr at *
  generalize l.length = m at *
  replace M1 := Lib.hid (M1.out.below hb)
  replace L := Lib.hid (bst L.out hb L.out.size)
  clear hb
  have hbq := below1 w1 (.cells (c3 (.slice pa nf qa) (.slice pb nl qb) (.slice pc nr qc)) 30)
  replace M1 := Lib.hid (M1.out.below hbq)
  replace HA := Lib.hid (HA.out.below hbq)
  replace HI := Lib.hid (HI.out.below hbq)
  replace L := Lib.hid (bst L.out hbq L.out.size)
  clear hbq
  have VH := Lib.hid (show RowH _ _ _ _ _ from Row.new w1 30 (c3 (.slice pa nf qa) (.slice pb nl qb) (.slice pc nr qc)))
  have c0 := VH.out.c0
  have c1 := VH.out.c1
  have c2 := VH.out.c2
  go_wp2_with fail
  clear c0 c1 c2
  refine (HC1.out _ HA.out HI.out).mono ?_
  intro e w2 hend
  obtain ⟨vG, rfl, hiG, hb⟩ := hend.reads
  clear hend
  obtain ⟨pG, qG, rfl⟩ := hiG.shape
  replace M1 := Lib.hid (M1.out.below hb)
  replace HA := Lib.hid (HA.out.below hb)
  replace HI := Lib.hid (HI.out.below hb)
  replace VH := Lib.hid (VH.out.below hb)
  replace L := Lib.hid (bst L.out hb L.out.size)
  have IG := Lib.hid hiG
  clear hb hiG
  have c0 := VH.out.c0
  have c1 := VH.out.c1
  have c2 := VH.out.c2
  go_wp2_with fail
  clear c0 c1 c2
  refine (HC2.out _ HA.out HI.out).mono ?_
  intro e w3 hend
  obtain ⟨vW, rfl, hiW, hb⟩ := hend.reads
  clear hend
  obtain ⟨pW, qW, rfl⟩ := hiW.shape
  replace M1 := Lib.hid (M1.out.below hb)
  replace HA := Lib.hid (HA.out.below hb)
  replace HI := Lib.hid (HI.out.below hb)
  replace VH := Lib.hid (VH.out.below hb)
  replace IG := Lib.hid (IG.out.below hb)
  replace L := Lib.hid (bst L.out hb L.out.size)
  have IW := Lib.hid hiW
  clear hb hiW
  have e1 : (ok != ok) = false := by simp
  have e2 : ((ns : Int) != (ns : Int)) = false := by simp
  go_wp2_with fail
  refine (c_sameInts _ _ s s _ IG.out IW.out (by have := HLS.out _ rfl; omega)).mono ?_
  rintro e w4 ⟨hre, nd, hnd⟩
  rw [decide_eq_true rfl] at hre
  subst hre
  have hb : Below w3.heap.size w3 w4 := by rw [hnd]; exact below_drewN (Below.refl _ _) nd
  clear hnd nd
  replace M1 := Lib.hid (M1.out.below hb)
  replace HA := Lib.hid (HA.out.below hb)
  replace HI := Lib.hid (HI.out.below hb)
  replace VH := Lib.hid (VH.out.below hb)
  replace IG := Lib.hid (IG.out.below hb)
  replace IW := Lib.hid (IW.out.below hb)
  replace L := Lib.hid (bst L.out hb L.out.size)
  clear hb
  cases ok
  · skip
    go_wp2_with fail
    refine (d_IsSound _ z1 _ M1.out).mono ?_
    rintro e x1a ⟨au, bu, cu, hu, v5, l5, rfl, hshu, hAu, hi5, hl5, hb⟩
    obtain ⟨pd, qd, rfl⟩ := hAu.f.shape
    obtain ⟨pe, qe, rfl⟩ := hAu.l.shape
    obtain ⟨pf, qf, rfl⟩ := hAu.r.shape
    obtain ⟨p5, q5, rfl⟩ := hi5.shape
    replace M1 := Lib.hid (M1.out.below hb)
    replace HA := Lib.hid (HA.out.below hb)
    replace HI := Lib.hid (HI.out.below hb)
    replace VH := Lib.hid (VH.out.below hb)
    replace IG := Lib.hid (IG.out.below hb)
    replace IW := Lib.hid (IW.out.below hb)
    replace L := Lib.hid (bst L.out hb L.out.size)
    have I5 := Lib.hid hi5; have HU := Lib.hid hAu
    have HS1 := Lib.hid (fun w' q1 q2 => c_IsSound (.slice pd hu.f.length qd) (.slice pe hu.l.length qe) (.slice pf hu.r.length qf) (.slice p5 l5.length q5) hu l5 w' q1 q2)
    have HS2 := Lib.hid (fun w' q1 q2 => s_IsSound (.slice pd hu.f.length qd) (.slice pe hu.l.length qe) (.slice pf hu.r.length qf) (.slice p5 l5.length q5) hu l5 w' q1 q2)
    clear hb hi5 hAu hshu
    generalize soundR hu l5 = so5 at *
    generalize bothB hu l5 = bo5 at *
    generalize hu.f.length = nfu at *
    generalize hu.l.length = nlu at *
    generalize hu.r.length = nru at *
    generalize l5.length = m5 at *
    have hbq := below1 x1a (.cells (c3 (.slice pd nfu qd) (.slice pe nlu qe) (.slice pf nru qf)) 30)
    replace M1 := Lib.hid (M1.out.below hbq)
    replace HA := Lib.hid (HA.out.below hbq)
    replace HI := Lib.hid (HI.out.below hbq)
    replace VH := Lib.hid (VH.out.below hbq)
    replace IG := Lib.hid (IG.out.below hbq)
    replace IW := Lib.hid (IW.out.below hbq)
    replace I5 := Lib.hid (I5.out.below hbq)
    replace HU := Lib.hid (HU.out.below hbq)
    replace L := Lib.hid (bst L.out hbq L.out.size)
    clear hbq
    have VU := Lib.hid (show RowH _ _ _ _ _ from Row.new x1a 30 (c3 (.slice pd nfu qd) (.slice pe nlu qe) (.slice pf nru qf)))
    have c0 := VU.out.c0
    have c1 := VU.out.c1
    have c2 := VU.out.c2
    go_wp2_with fail
    clear c0 c1 c2
    refine (HS1.out _ HU.out I5.out).mono ?_
    rintro e x2a ⟨rfl, hb⟩
    replace M1 := Lib.hid (M1.out.below hb)
    replace HA := Lib.hid (HA.out.below hb)
    replace HI := Lib.hid (HI.out.below hb)
    replace VH := Lib.hid (VH.out.below hb)
    replace IG := Lib.hid (IG.out.below hb)
    replace IW := Lib.hid (IW.out.below hb)
    replace I5 := Lib.hid (I5.out.below hb)
    replace HU := Lib.hid (HU.out.below hb)
    replace VU := Lib.hid (VU.out.below hb)
    replace L := Lib.hid (bst L.out hb L.out.size)
    clear hb
    have c0 := VU.out.c0
    have c1 := VU.out.c1
    have c2 := VU.out.c2
    go_wp2_with fail
    clear c0 c1 c2
    refine (HS2.out _ HU.out I5.out).mono ?_
    rintro e x3a ⟨rfl, hb⟩
    replace M1 := Lib.hid (M1.out.below hb)
    replace HA := Lib.hid (HA.out.below hb)
    replace HI := Lib.hid (HI.out.below hb)
    replace VH := Lib.hid (VH.out.below hb)
    replace IG := Lib.hid (IG.out.below hb)
    replace IW := Lib.hid (IW.out.below hb)
    replace I5 := Lib.hid (I5.out.below hb)
    replace HU := Lib.hid (HU.out.below hb)
    replace VU := Lib.hid (VU.out.below hb)
    replace L := Lib.hid (bst L.out hb L.out.size)
    clear hb
    go_wp2_with fail
    refine (d_StartColours _ z1 _ M1.out).mono ?_
    rintro e x4a ⟨av, bv, cv, hw, rfl, hshw, hAw, hb⟩
    obtain ⟨pg, qg, rfl⟩ := hAw.f.shape
    obtain ⟨ph, qh, rfl⟩ := hAw.l.shape
    obtain ⟨pi, qi, rfl⟩ := hAw.r.shape
    replace M1 := Lib.hid (M1.out.below hb)
    replace HA := Lib.hid (HA.out.below hb)
    replace HI := Lib.hid (HI.out.below hb)
    replace VH := Lib.hid (VH.out.below hb)
    replace IG := Lib.hid (IG.out.below hb)
    replace IW := Lib.hid (IW.out.below hb)
    replace I5 := Lib.hid (I5.out.below hb)
    replace HU := Lib.hid (HU.out.below hb)
    replace VU := Lib.hid (VU.out.below hb)
    replace L := Lib.hid (bst L.out hb L.out.size)
    have HW := Lib.hid hAw
    have HT1 := Lib.hid (fun w' q1 => c_StartColours (.slice pg hw.f.length qg) (.slice ph hw.l.length qh) (.slice pi hw.r.length qi) hw w' q1)
    have HT2 := Lib.hid (fun w' q1 => s_StartColours (.slice pg hw.f.length qg) (.slice ph hw.l.length qh) (.slice pi hw.r.length qi) hw w' q1)
    have LT : Hid (∀ X : List Int, X = startR hw → X.length ≤ 1000) := fun X q => by rw [q]; exact startR_len hw
    clear hb hAw hshw
    generalize startR hw = s7 at *
    generalize good hw = g7 at *
    generalize hw.f.length = nfw at *
    generalize hw.l.length = nlw at *
    generalize hw.r.length = nrw at *
    have hbq := below1 x4a (.cells (c3 (.slice pg nfw qg) (.slice ph nlw qh) (.slice pi nrw qi)) 30)
    replace M1 := Lib.hid (M1.out.below hbq)
    replace HA := Lib.hid (HA.out.below hbq)
    replace HI := Lib.hid (HI.out.below hbq)
    replace VH := Lib.hid (VH.out.below hbq)
    replace IG := Lib.hid (IG.out.below hbq)
    replace IW := Lib.hid (IW.out.below hbq)
    replace I5 := Lib.hid (I5.out.below hbq)
    replace HU := Lib.hid (HU.out.below hbq)
    replace VU := Lib.hid (VU.out.below hbq)
    replace HW := Lib.hid (HW.out.below hbq)
    replace L := Lib.hid (bst L.out hbq L.out.size)
    clear hbq
    have VW := Lib.hid (show RowH _ _ _ _ _ from Row.new x4a 30 (c3 (.slice pg nfw qg) (.slice ph nlw qh) (.slice pi nrw qi)))
    have c0 := VW.out.c0
    have c1 := VW.out.c1
    have c2 := VW.out.c2
    go_wp2_with fail
    clear c0 c1 c2
    refine (HT1.out _ HW.out).mono ?_
    intro e x5a hend
    obtain ⟨vT, rfl, hiT, hb⟩ := hend.reads'
    clear hend
    obtain ⟨pT, qT, rfl⟩ := hiT.shape
    replace M1 := Lib.hid (M1.out.below hb)
    replace HA := Lib.hid (HA.out.below hb)
    replace HI := Lib.hid (HI.out.below hb)
    replace VH := Lib.hid (VH.out.below hb)
    replace IG := Lib.hid (IG.out.below hb)
    replace IW := Lib.hid (IW.out.below hb)
    replace I5 := Lib.hid (I5.out.below hb)
    replace HU := Lib.hid (HU.out.below hb)
    replace VU := Lib.hid (VU.out.below hb)
    replace HW := Lib.hid (HW.out.below hb)
    replace VW := Lib.hid (VW.out.below hb)
    replace L := Lib.hid (bst L.out hb L.out.size)
    have IT := Lib.hid hiT
    clear hb hiT
    have c0 := VW.out.c0
    have c1 := VW.out.c1
    have c2 := VW.out.c2
    go_wp2_with fail
    clear c0 c1 c2
    refine (HT2.out _ HW.out).mono ?_
    intro e x6a hend
    obtain ⟨vQ, rfl, hiQ, hb⟩ := hend.reads'
    clear hend
    obtain ⟨pQ, qQ, rfl⟩ := hiQ.shape
    replace M1 := Lib.hid (M1.out.below hb)
    replace HA := Lib.hid (HA.out.below hb)
    replace HI := Lib.hid (HI.out.below hb)
    replace VH := Lib.hid (VH.out.below hb)
    replace IG := Lib.hid (IG.out.below hb)
    replace IW := Lib.hid (IW.out.below hb)
    replace I5 := Lib.hid (I5.out.below hb)
    replace HU := Lib.hid (HU.out.below hb)
    replace VU := Lib.hid (VU.out.below hb)
    replace HW := Lib.hid (HW.out.below hb)
    replace VW := Lib.hid (VW.out.below hb)
    replace IT := Lib.hid (IT.out.below hb)
    replace L := Lib.hid (bst L.out hb L.out.size)
    have IQ := Lib.hid hiQ
    clear hb hiQ
    have f1 : (bo5 == bo5) = true := by simp
    have f2 : (so5 == so5) = true := by simp
    have f3 : (g7 == g7) = true := by simp
    go_wp2_with fail
    refine (c_sameInts _ _ s7 s7 _ IT.out IQ.out (by have := LT.out _ rfl; omega)).mono ?_
    rintro e y1a ⟨hre, nd, hnd⟩
    rw [decide_eq_true rfl] at hre
    subst hre
    have hb : Below x6a.heap.size x6a y1a := by rw [hnd]; exact below_drewN (Below.refl _ _) nd
    clear hnd nd
    replace M1 := Lib.hid (M1.out.below hb)
    replace HA := Lib.hid (HA.out.below hb)
    replace HI := Lib.hid (HI.out.below hb)
    replace VH := Lib.hid (VH.out.below hb)
    replace IG := Lib.hid (IG.out.below hb)
    replace IW := Lib.hid (IW.out.below hb)
    replace I5 := Lib.hid (I5.out.below hb)
    replace HU := Lib.hid (HU.out.below hb)
    replace VU := Lib.hid (VU.out.below hb)
    replace HW := Lib.hid (HW.out.below hb)
    replace VW := Lib.hid (VW.out.below hb)
    replace IT := Lib.hid (IT.out.below hb)
    replace IQ := Lib.hid (IQ.out.below hb)
    replace L := Lib.hid (bst L.out hb L.out.size)
    clear hb
    go_wp2_with fail
    go_ret
    exact ⟨rfl, L.out⟩
  obtain ⟨g1, g2, g3, g4, g5, g6, g7, g8, g9, g10⟩ := FS.out rfl
  subst g1; subst g2; subst g3; subst g4; subst g5; subst g6
  have HG8 := Lib.hid g8; have HG9 := Lib.hid g9; have HG7 := Lib.hid g7
  clear FS g8 g9
  have c0 := VH.out.c0
  have c1 := VH.out.c1
  have c2 := VH.out.c2
  go_wp2_with fail
  clear c0 c1 c2
  refine (HC4.out _ HA.out).mono ?_
  intro e w5 hend
  obtain ⟨vR, rfl, hiR, hb⟩ := hend.reads
  clear hend
  obtain ⟨pR, qR, rfl⟩ := hiR.shape
  replace M1 := Lib.hid (M1.out.below hb)
  replace HA := Lib.hid (HA.out.below hb)
  replace HI := Lib.hid (HI.out.below hb)
  replace VH := Lib.hid (VH.out.below hb)
  replace IG := Lib.hid (IG.out.below hb)
  replace IW := Lib.hid (IW.out.below hb)
  replace L := Lib.hid (bst L.out hb L.out.size)
  have IR := Lib.hid hiR
  clear hb hiR
  have c0 := VH.out.c0
  have c1 := VH.out.c1
  have c2 := VH.out.c2
  go_wp2_with fail
  clear c0 c1 c2
  refine (HC5.out _ _ HA.out IG.out).mono ?_
  rintro e w6 ⟨rfl, hb⟩
  replace M1 := Lib.hid (M1.out.below hb)
  replace HA := Lib.hid (HA.out.below hb)
  replace HI := Lib.hid (HI.out.below hb)
  replace VH := Lib.hid (VH.out.below hb)
  replace IG := Lib.hid (IG.out.below hb)
  replace IW := Lib.hid (IW.out.below hb)
  replace IR := Lib.hid (IR.out.below hb)
  replace L := Lib.hid (bst L.out hb L.out.size)
  clear hb
  have c0 := VH.out.c0
  have c1 := VH.out.c1
  have c2 := VH.out.c2
  go_wp2_with fail
  clear c0 c1 c2
  refine (HC3.out _ HA.out).mono ?_
  intro e w7 hend
  obtain ⟨vK, rfl, hiK, hb⟩ := hend.reads
  clear hend
  obtain ⟨pK, qK, rfl⟩ := hiK.shape
  replace M1 := Lib.hid (M1.out.below hb)
  replace HA := Lib.hid (HA.out.below hb)
  replace HI := Lib.hid (HI.out.below hb)
  replace VH := Lib.hid (VH.out.below hb)
  replace IG := Lib.hid (IG.out.below hb)
  replace IW := Lib.hid (IW.out.below hb)
  replace IR := Lib.hid (IR.out.below hb)
  replace L := Lib.hid (bst L.out hb L.out.size)
  have IK := Lib.hid hiK
  clear hb hiK
  go_wp2_with fail
  refine (c_sameInts _ _ s' s' _ IK.out IG.out (by have := HLS.out _ rfl; omega)).mono ?_
  rintro e w8 ⟨hre, nd, hnd⟩
  rw [decide_eq_true rfl] at hre
  subst hre
  have hb : Below w7.heap.size w7 w8 := by rw [hnd]; exact below_drewN (Below.refl _ _) nd
  clear hnd nd
  replace M1 := Lib.hid (M1.out.below hb)
  replace HA := Lib.hid (HA.out.below hb)
  replace HI := Lib.hid (HI.out.below hb)
  replace VH := Lib.hid (VH.out.below hb)
  replace IG := Lib.hid (IG.out.below hb)
  replace IW := Lib.hid (IW.out.below hb)
  replace IR := Lib.hid (IR.out.below hb)
  replace IK := Lib.hid (IK.out.below hb)
  replace L := Lib.hid (bst L.out hb L.out.size)
  clear hb
  clear g7 HC1 HC2 HC3 HC4 HC5
  have g7 := HG7.out
  clear HG7
  generalize rb.length = lb at *
  generalize s'.length = ls at *
  obtain rfl : ls = lb := g7.symm
  clear g7
  have e3 : ((ns' : Int) != (ns' : Int)) = false := by simp
  go_wp2_with fail
  go_loopw [20, 118] (fun bl i wr => ∃ (j bj : Nat), j ≤ ls ∧ i = .int .i64 (j : Int) ∧ Hid (bj = blk s' j) ∧ bl = .int .i64 (bj : Int) ∧ wr = w8) (fun _ i _ => ls - (intOf i).toNat)
  case atStart => exact ⟨0, 0, Nat.zero_le _, rfl, rfl, rfl, rfl⟩
  case round =>
    obtain ⟨j, bj, hj, rfl, hbj, rfl, rfl⟩ := hrel
    have hbl := blk_le s' j
    rw [← hbj.out] at hbl
    by_cases hjl : j < ls
    · obtain ⟨bs, os, rfl, hcs⟩ := IG.out.at' (by omega)
      obtain ⟨br, or', rfl, hcr⟩ := IR.out.at' (by omega)
      have qs := hcs j hjl
      have qr := hcr j hjl
      have hg8 := HG8.out j
      have HBS := Lib.hid (blk_succ s' j)
      have j1 : (j : Int) < (ls : Int) := by omega
      have j0 : (0 : Int) ≤ (j : Int) := by omega
      clear hcs hcr
      generalize rb.getD j false = y at *
      generalize s'.getD j 0 = sj at *
      cases y
      · have hs0 : sj = 0 := by rw [hg8]; rfl
        subst hs0
        have HB : Hid (bj = blk s' (j + 1)) := by unfold Hid; rw [HBS.out, hbj.out]; rfl
        clear hg8 HBS
        go_wp2_with fail
        go_roundw
        case rel => first | exact ⟨j + 1, bj, by omega, by go_num, HB, rfl, rfl⟩ | exact ⟨j + 1, bj, by omega, by go_num, HB, rfl, trivial⟩ | exact ⟨j + 1, bj, by omega, by go_num, HB, rfl⟩
        case measure => simp [intOf]; omega
      · have hs2 : sj = 2 := by rw [hg8]; rfl
        subst hs2
        have HB : Hid (bj + 1 = blk s' (j + 1)) := by unfold Hid; rw [HBS.out, hbj.out]; rfl
        clear hg8 HBS
        go_wp2_with fail
        go_roundw
        case rel => first | exact ⟨j + 1, bj + 1, by omega, by go_num, HB, by go_num, rfl⟩ | exact ⟨j + 1, bj + 1, by omega, by go_num, HB, by go_num, trivial⟩ | exact ⟨j + 1, bj + 1, by omega, by go_num, HB, by go_num⟩
        case measure => simp [intOf]; omega
    · obtain rfl : j = ls := by omega
      have jn : ¬ (j : Int) < (j : Int) := by omega
      have hbn : bj = ns' := by rw [hbj.out, HG9.out]
      subst hbn
      go_wp2_with fail
      refine (d_IsSound _ z1 _ M1.out).mono ?_
      rintro e x1b ⟨au, bu, cu, hu, v5, l5, rfl, hshu, hAu, hi5, hl5, hb⟩
      obtain ⟨pd, qd, rfl⟩ := hAu.f.shape
      obtain ⟨pe, qe, rfl⟩ := hAu.l.shape
      obtain ⟨pf, qf, rfl⟩ := hAu.r.shape
      obtain ⟨p5, q5, rfl⟩ := hi5.shape
      replace M1 := Lib.hid (M1.out.below hb)
      replace HA := Lib.hid (HA.out.below hb)
      replace HI := Lib.hid (HI.out.below hb)
      replace VH := Lib.hid (VH.out.below hb)
      replace IG := Lib.hid (IG.out.below hb)
      replace IW := Lib.hid (IW.out.below hb)
      replace IR := Lib.hid (IR.out.below hb)
      replace IK := Lib.hid (IK.out.below hb)
      replace L := Lib.hid (bst L.out hb L.out.size)
      have I5 := Lib.hid hi5; have HU := Lib.hid hAu
      have HS1 := Lib.hid (fun w' q1 q2 => c_IsSound (.slice pd hu.f.length qd) (.slice pe hu.l.length qe) (.slice pf hu.r.length qf) (.slice p5 l5.length q5) hu l5 w' q1 q2)
      have HS2 := Lib.hid (fun w' q1 q2 => s_IsSound (.slice pd hu.f.length qd) (.slice pe hu.l.length qe) (.slice pf hu.r.length qf) (.slice p5 l5.length q5) hu l5 w' q1 q2)
      clear hb hi5 hAu hshu
      generalize soundR hu l5 = so5 at *
      generalize bothB hu l5 = bo5 at *
      generalize hu.f.length = nfu at *
      generalize hu.l.length = nlu at *
      generalize hu.r.length = nru at *
      generalize l5.length = m5 at *
      have hbq := below1 x1b (.cells (c3 (.slice pd nfu qd) (.slice pe nlu qe) (.slice pf nru qf)) 30)
      replace M1 := Lib.hid (M1.out.below hbq)
      replace HA := Lib.hid (HA.out.below hbq)
      replace HI := Lib.hid (HI.out.below hbq)
      replace VH := Lib.hid (VH.out.below hbq)
      replace IG := Lib.hid (IG.out.below hbq)
      replace IW := Lib.hid (IW.out.below hbq)
      replace IR := Lib.hid (IR.out.below hbq)
      replace IK := Lib.hid (IK.out.below hbq)
      replace I5 := Lib.hid (I5.out.below hbq)
      replace HU := Lib.hid (HU.out.below hbq)
      replace L := Lib.hid (bst L.out hbq L.out.size)
      clear hbq
      have VU := Lib.hid (show RowH _ _ _ _ _ from Row.new x1b 30 (c3 (.slice pd nfu qd) (.slice pe nlu qe) (.slice pf nru qf)))
      have c0 := VU.out.c0
      have c1 := VU.out.c1
      have c2 := VU.out.c2
      go_wp2_with fail
      clear c0 c1 c2
      refine (HS1.out _ HU.out I5.out).mono ?_
      rintro e x2b ⟨rfl, hb⟩
      replace M1 := Lib.hid (M1.out.below hb)
      replace HA := Lib.hid (HA.out.below hb)
      replace HI := Lib.hid (HI.out.below hb)
      replace VH := Lib.hid (VH.out.below hb)
      replace IG := Lib.hid (IG.out.below hb)
      replace IW := Lib.hid (IW.out.below hb)
      replace IR := Lib.hid (IR.out.below hb)
      replace IK := Lib.hid (IK.out.below hb)
      replace I5 := Lib.hid (I5.out.below hb)
      replace HU := Lib.hid (HU.out.below hb)
      replace VU := Lib.hid (VU.out.below hb)
      replace L := Lib.hid (bst L.out hb L.out.size)
      clear hb
      have c0 := VU.out.c0
      have c1 := VU.out.c1
      have c2 := VU.out.c2
      go_wp2_with fail
      clear c0 c1 c2
      refine (HS2.out _ HU.out I5.out).mono ?_
      rintro e x3b ⟨rfl, hb⟩
      replace M1 := Lib.hid (M1.out.below hb)
      replace HA := Lib.hid (HA.out.below hb)
      replace HI := Lib.hid (HI.out.below hb)
      replace VH := Lib.hid (VH.out.below hb)
      replace IG := Lib.hid (IG.out.below hb)
      replace IW := Lib.hid (IW.out.below hb)
      replace IR := Lib.hid (IR.out.below hb)
      replace IK := Lib.hid (IK.out.below hb)
      replace I5 := Lib.hid (I5.out.below hb)
      replace HU := Lib.hid (HU.out.below hb)
      replace VU := Lib.hid (VU.out.below hb)
      replace L := Lib.hid (bst L.out hb L.out.size)
      clear hb
      go_wp2_with fail
      refine (d_StartColours _ z1 _ M1.out).mono ?_
      rintro e x4b ⟨av, bv, cv, hw, rfl, hshw, hAw, hb⟩
      obtain ⟨pg, qg, rfl⟩ := hAw.f.shape
      obtain ⟨ph, qh, rfl⟩ := hAw.l.shape
      obtain ⟨pi, qi, rfl⟩ := hAw.r.shape
      replace M1 := Lib.hid (M1.out.below hb)
      replace HA := Lib.hid (HA.out.below hb)
      replace HI := Lib.hid (HI.out.below hb)
      replace VH := Lib.hid (VH.out.below hb)
      replace IG := Lib.hid (IG.out.below hb)
      replace IW := Lib.hid (IW.out.below hb)
      replace IR := Lib.hid (IR.out.below hb)
      replace IK := Lib.hid (IK.out.below hb)
      replace I5 := Lib.hid (I5.out.below hb)
      replace HU := Lib.hid (HU.out.below hb)
      replace VU := Lib.hid (VU.out.below hb)
      replace L := Lib.hid (bst L.out hb L.out.size)
      have HW := Lib.hid hAw
      have HT1 := Lib.hid (fun w' q1 => c_StartColours (.slice pg hw.f.length qg) (.slice ph hw.l.length qh) (.slice pi hw.r.length qi) hw w' q1)
      have HT2 := Lib.hid (fun w' q1 => s_StartColours (.slice pg hw.f.length qg) (.slice ph hw.l.length qh) (.slice pi hw.r.length qi) hw w' q1)
      have LT : Hid (∀ X : List Int, X = startR hw → X.length ≤ 1000) := fun X q => by rw [q]; exact startR_len hw
      clear hb hAw hshw
      generalize startR hw = s7 at *
      generalize good hw = g7 at *
      generalize hw.f.length = nfw at *
      generalize hw.l.length = nlw at *
      generalize hw.r.length = nrw at *
      have hbq := below1 x4b (.cells (c3 (.slice pg nfw qg) (.slice ph nlw qh) (.slice pi nrw qi)) 30)
      replace M1 := Lib.hid (M1.out.below hbq)
      replace HA := Lib.hid (HA.out.below hbq)
      replace HI := Lib.hid (HI.out.below hbq)
      replace VH := Lib.hid (VH.out.below hbq)
      replace IG := Lib.hid (IG.out.below hbq)
      replace IW := Lib.hid (IW.out.below hbq)
      replace IR := Lib.hid (IR.out.below hbq)
      replace IK := Lib.hid (IK.out.below hbq)
      replace I5 := Lib.hid (I5.out.below hbq)
      replace HU := Lib.hid (HU.out.below hbq)
      replace VU := Lib.hid (VU.out.below hbq)
      replace HW := Lib.hid (HW.out.below hbq)
      replace L := Lib.hid (bst L.out hbq L.out.size)
      clear hbq
      have VW := Lib.hid (show RowH _ _ _ _ _ from Row.new x4b 30 (c3 (.slice pg nfw qg) (.slice ph nlw qh) (.slice pi nrw qi)))
      have c0 := VW.out.c0
      have c1 := VW.out.c1
      have c2 := VW.out.c2
      go_wp2_with fail
      clear c0 c1 c2
      refine (HT1.out _ HW.out).mono ?_
      intro e x5b hend
      obtain ⟨vT, rfl, hiT, hb⟩ := hend.reads'
      clear hend
      obtain ⟨pT, qT, rfl⟩ := hiT.shape
      replace M1 := Lib.hid (M1.out.below hb)
      replace HA := Lib.hid (HA.out.below hb)
      replace HI := Lib.hid (HI.out.below hb)
      replace VH := Lib.hid (VH.out.below hb)
      replace IG := Lib.hid (IG.out.below hb)
      replace IW := Lib.hid (IW.out.below hb)
      replace IR := Lib.hid (IR.out.below hb)
      replace IK := Lib.hid (IK.out.below hb)
      replace I5 := Lib.hid (I5.out.below hb)
      replace HU := Lib.hid (HU.out.below hb)
      replace VU := Lib.hid (VU.out.below hb)
      replace HW := Lib.hid (HW.out.below hb)
      replace VW := Lib.hid (VW.out.below hb)
      replace L := Lib.hid (bst L.out hb L.out.size)
      have IT := Lib.hid hiT
      clear hb hiT
      have c0 := VW.out.c0
      have c1 := VW.out.c1
      have c2 := VW.out.c2
      go_wp2_with fail
      clear c0 c1 c2
      refine (HT2.out _ HW.out).mono ?_
      intro e x6b hend
      obtain ⟨vQ, rfl, hiQ, hb⟩ := hend.reads'
      clear hend
      obtain ⟨pQ, qQ, rfl⟩ := hiQ.shape
      replace M1 := Lib.hid (M1.out.below hb)
      replace HA := Lib.hid (HA.out.below hb)
      replace HI := Lib.hid (HI.out.below hb)
      replace VH := Lib.hid (VH.out.below hb)
      replace IG := Lib.hid (IG.out.below hb)
      replace IW := Lib.hid (IW.out.below hb)
      replace IR := Lib.hid (IR.out.below hb)
      replace IK := Lib.hid (IK.out.below hb)
      replace I5 := Lib.hid (I5.out.below hb)
      replace HU := Lib.hid (HU.out.below hb)
      replace VU := Lib.hid (VU.out.below hb)
      replace HW := Lib.hid (HW.out.below hb)
      replace VW := Lib.hid (VW.out.below hb)
      replace IT := Lib.hid (IT.out.below hb)
      replace L := Lib.hid (bst L.out hb L.out.size)
      have IQ := Lib.hid hiQ
      clear hb hiQ
      have f1 : (bo5 == bo5) = true := by simp
      have f2 : (so5 == so5) = true := by simp
      have f3 : (g7 == g7) = true := by simp
      go_wp2_with fail
      refine (c_sameInts _ _ s7 s7 _ IT.out IQ.out (by have := LT.out _ rfl; omega)).mono ?_
      rintro e y1b ⟨hre, nd, hnd⟩
      rw [decide_eq_true rfl] at hre
      subst hre
      have hb : Below x6b.heap.size x6b y1b := by rw [hnd]; exact below_drewN (Below.refl _ _) nd
      clear hnd nd
      replace M1 := Lib.hid (M1.out.below hb)
      replace HA := Lib.hid (HA.out.below hb)
      replace HI := Lib.hid (HI.out.below hb)
      replace VH := Lib.hid (VH.out.below hb)
      replace IG := Lib.hid (IG.out.below hb)
      replace IW := Lib.hid (IW.out.below hb)
      replace IR := Lib.hid (IR.out.below hb)
      replace IK := Lib.hid (IK.out.below hb)
      replace I5 := Lib.hid (I5.out.below hb)
      replace HU := Lib.hid (HU.out.below hb)
      replace VU := Lib.hid (VU.out.below hb)
      replace HW := Lib.hid (HW.out.below hb)
      replace VW := Lib.hid (VW.out.below hb)
      replace IT := Lib.hid (IT.out.below hb)
      replace IQ := Lib.hid (IQ.out.below hb)
      replace L := Lib.hid (bst L.out hb L.out.size)
      clear hb
      go_wp2_with fail
      go_ret
      exact ⟨rfl, L.out⟩
end Go.Proofs.Ytkkigoamphkalaa
namespace Go.Proofs.Ytkkigoamphkalaa.xMarked
open Go.ChangeShapes Go.WideShapes Go.ChangeAt Go.RowKit

set_option maxRecDepth 100000 in
theorem contract (H : Type) (enc : TypeId × Value → H) (W : World) (base : Nat) (args : Array Value) (ds gs : List (DataW H)) (before : List MemPlace)
    (hval : ∀ (j : Nat) t v, Try.f13.params[j]? = some t → args[j]? = some v → Value.okWide Try.prog W .any base t v)
    (hW : DataW.Whole enc Try.prog Try.f13.params.toList Rows.fnMarkedSpec.vars false W args.toList ds gs before) :
    Calls Try.prog 13 args W fun e W' => ∃ v, e = .returned v ∧ Rows.fnMarkedSpec.post enc Try.prog Try.f13 false true false false W args v W' := by
  have hW' := hW
  obtain ⟨p, q, hA0, hV, rfl, hfz, hnd⟩ := hW
  have hA : DataW.TrodAll enc Try.prog W 0 (fun _ => true) true Try.f13.params.toList args.toList ds p := hA0
  have hpar : ∀ t ∈ Try.f13.params.toList, Try.prog.readableRec t = true ∧ t < Try.prog.types.size := by
    rw [Try.params13]; intro t ht; simp at ht; subst ht; exact r_bytes
  rw [Try.params13] at hA hval
  obtain ⟨v0, vs0, d0, ds0, p0, q0, hargs, rfl, rfl, h0, r0⟩ := trodAll_cons hA
  obtain ⟨v1, vs1, d1, ds1, p1, q1, rfl, rfl, rfl, h1, r1⟩ := trodAll_cons r0
  obtain ⟨rfl, rfl, rfl⟩ := trodAll_nil r1
  obtain rfl : args = #[v0, v1] := by cases args; simp_all
  obtain ⟨rfl, rfl⟩ := trodVars_none hV
  obtain ⟨z0, hz0⟩ := bytes_of_arg (hval 0 75 v0 rfl rfl) h0
  obtain ⟨z1, hz1⟩ := bytes_of_arg (hval 1 75 v1 rfl rfl) h1
  refine (walk_FnMarked v0 z0 v1 z1 W hz0 hz1).mono fun e W' ⟨he, hb⟩ => ?_
  subst he
  exact ⟨_, rfl, law_post laidOut hpar (fun n hn => by cases hn) hW' hb rfl (by kernel_rfl) Try.underlying4⟩

set_option maxRecDepth 100000 in
theorem lifted (os : Os) (started : os.Started) (H : Type) (enc : TypeId × Value → H) :
    ReturnsInHanded {} Try.checked os 13 .any (Rows.fnMarkedSpec.pre6 enc Try.prog Try.f13 Rows.fnMarkedRow.domain false) (Rows.fnMarkedSpec.post enc Try.prog Try.f13 false true false false) := by
  refine returnsInHanded_of_change (C := Try.checked) own started (by kernel_rfl) Try.func13
    (ChangeSpec.witness6 (enc := enc) (C := Try.checked) false ⟨#[], #[.slice none 0 0, .slice none 0 0], []⟩ 8 (by kernel_rfl) (by kernel_rfl) (by kernel_rfl) (by kernel_rfl)) ?_
  intro W base args ds gs before hval hW _ _
  exact contract H enc W base args ds gs before hval hW
end Go.Proofs.Ytkkigoamphkalaa.xMarked
namespace Go.Proofs.Ytkkigoamphkalaa
theorem xMarked_said : Rows.FnMarkedSaid :=
  OpenClaim.holds_of_wide 13 Try.f13 rfl rfl rfl rfl rfl rfl rfl ⟨rfl, rfl, rfl, rfl, rfl⟩ rfl rfl rfl rfl rfl (by kernel_rfl) Try.func13 (by kernel_rfl)
    (of_decide_eq_true (by kernel_rfl)) (by unfold Func.isWrapper; first | (rw [if_pos (by decide +kernel)]; kernel_rfl) | (rw [if_neg (by decide +kernel)]; exact ⟨rfl, rfl⟩))
    (fun os started H enc _ => xMarked.lifted os started H enc)
end Go.Proofs.Ytkkigoamphkalaa
