/- laws.FnExactPlayMarking: for every input the law answers true, and the input reads as it did. No condition. -/
import Derived.Test.YtbmfkgfmibpkjaaPC10
namespace Go.Proofs.Ytbmfkgfmibpkjaa
open Go.RowKit Ph

set_option maxHeartbeats 25600000 in
set_option maxRecDepth 100000 in
theorem core_FnExactPlayMarking (ax bx cx v : Value) (hx : H) (ms : List Mv) (put : Bool) (gh : H) (gz : List Int) (gd : List Bool) (ok : Bool) (w : World) (hzx : HeapAt w ax bx cx hx) (hmv : MovesAt w v ms) (hm : wtH hx + ms.length ≤ 1048576) (hrs : wtH gh + gz.length + gd.length ≤ 2000)
    (hS : ∀ (w : World) (ax bx cx v : Value), HeapAt w ax bx cx hx → MovesAt w v ms → Calls Try.prog 27 #[hv ax bx cx, v, .bool put] w (EndMM gh gz gd ok w))
    (hI : ∀ (w : World) (ax bx cx v : Value), HeapAt w ax bx cx hx → MovesAt w v ms → Calls Try.prog 30 #[hv ax bx cx, v, .bool put] w (EndMM gh gz gd ok w)) :
    Calls Try.prog 5 #[hv ax bx cx, v, .bool put] w fun e w' => e = .returned (.bool true) ∧ Below w.heap.size w w' := by
  have HZ := Lib.hid hzx; have HMV := Lib.hid hmv
  have HS := Lib.hid (fun w a b c d h k => hS w a b c d h k); have HI := Lib.hid (fun w a b c d h k => hI w a b c d h k)
  clear hS hI
  obtain ⟨paA, qaA, rfl⟩ := hzx.f.shape
  obtain ⟨pbA, qbA, rfl⟩ := hzx.l.shape
  obtain ⟨pcA, qcA, rfl⟩ := hzx.r.shape
  obtain ⟨pmA, qmA, rfl⟩ := hmv.shape
  clear hzx hmv
  have HSZ : Hid (szM hx ≤ 1048576 ∧ hx.f.length ≤ 1048576) := by unfold Hid szM; have := hm; unfold wtH wt at this; omega
  have HRZ : Hid (szM gh ≤ 2000 ∧ gh.f.length ≤ 1048576 ∧ wtH gh ≤ 1048576 ∧ gz.length ≤ 1048576 ∧ gd.length ≤ 1048576) := by
    have h1 : szM gh ≤ 2000 ∧ gh.f.length ≤ 1048576 := by unfold szM; have := hrs; unfold wtH wt at this; omega
    exact ⟨h1.1, h1.2, by omega, by omega, by omega⟩
  clear hrs
  generalize hwt : wtH hx = wt at *
  have HWT := Lib.hid hwt; clear hwt
  generalize hnnf : hx.f.length = nf at *
  have HNnf := Lib.hid hnnf; clear hnnf
  generalize hnnl : hx.l.length = nl at *
  have HNnl := Lib.hid hnnl; clear hnnl
  generalize hnnr : hx.r.length = nr at *
  have HNnr := Lib.hid hnnr; clear hnnr
  generalize hnnm : ms.length = nm at *
  have HNnm := Lib.hid hnnm; clear hnnm
  generalize hngf : gh.f.length = gf at *
  have HNgf := Lib.hid hngf; clear hngf
  generalize hngl : gh.l.length = gl at *
  have HNgl := Lib.hid hngl; clear hngl
  generalize hngr : gh.r.length = gr at *
  have HNgr := Lib.hid hngr; clear hngr
  generalize hngc : gz.length = gc at *
  have HNgc := Lib.hid hngc; clear hngc
  generalize hngb : gd.length = gb at *
  have HNgb := Lib.hid hngb; clear hngb
  generalize hsz : szM hx = sz at *
  have HSM := Lib.hid hsz; clear hsz
  generalize hszg : szM gh = szg at *
  have HSMg := Lib.hid hszg; clear hszg
  have HM : Hid (wtH hx ≤ 1048576) := by unfold Hid; rw [HWT.out]; omega
  have HMnm : Hid (ms.length ≤ 1048576) := by unfold Hid; rw [HNnm.out]; omega
  have HB9 : Hid (gb ≤ 1048576 ∧ gc ≤ 1048576 ∧ szg ≤ 2000 ∧ gf ≤ 1048576) := ⟨HRZ.out.2.2.2.2, HRZ.out.2.2.2.1, HRZ.out.1, HRZ.out.2.1⟩
  have hl0 : ¬ ((1048576 : Int) - (wt : Int)) < 0 := by omega
  have hl1 : ¬ ((1048576 : Int) - (wt : Int) - (nm : Int)) < 0 := by omega
  have e1 : (ok != ok) = false := by simp
  have L := Lib.hid (below1 w (.cells (c3 (.slice paA nf qaA) (.slice pbA nl qbA) (.slice pcA nr qcA)) 26))
  have Rx : Hid (Row (w.alloc (.cells (c3 (.slice paA nf qaA) (.slice pbA nl qbA) (.slice pcA nr qcA)) 26)) w.heap.size 26 (c3 (.slice paA nf qaA) (.slice pbA nl qbA) (.slice pcA nr qcA))) := Row.new w _ _
  have S1 : Hid (w.heap.size + 1 ≤ (w.alloc (.cells (c3 (.slice paA nf qaA) (.slice pbA nl qbA) (.slice pcA nr qcA)) 26)).heap.size) := (by unfold Hid; simp)
  go_enter Try.func5, Try.ntmps5
  have c0x := Row.cell Rx.out 0
  have c1x := Row.cell Rx.out 1
  have c2x := Row.cell Rx.out 2
  have ltx := Row.lt Rx.out
  go_wp2_with fail
  clear c0x c1x c2x ltx
  refine (c_szHeap_yes (.slice paA nf qaA) (.slice pbA nl qbA) (.slice pcA nr qcA) hx 1048576 _ (HZ.out.below L.out) (by omega) (by rw [HWT.out]; omega)).mono ?_
  rintro e ws ⟨rfl, hb⟩
  rw [HWT.out]
  replace Rx := Lib.hid (Row.below Rx.out hb)
  have S2 : Hid ((w.alloc (.cells (c3 (.slice paA nf qaA) (.slice pbA nl qbA) (.slice pcA nr qcA)) 26)).heap.size ≤ ws.heap.size) := hb.size
  replace L := Lib.hid (bst L.out hb L.out.size)
  clear hb
  have c0x := Row.cell Rx.out 0
  have c1x := Row.cell Rx.out 1
  have c2x := Row.cell Rx.out 2
  have ltx := Row.lt Rx.out
  go_wp2_with fail
  clear c0x c1x c2x ltx
  refine (c_szMoveS_yes pmA nm qmA (1048576 - (wt : Int)) _ (by omega) (by omega)).mono ?_
  rintro e wsm ⟨rfl, hw⟩
  subst hw
  have c0x := Row.cell Rx.out 0
  have c1x := Row.cell Rx.out 1
  have c2x := Row.cell Rx.out 2
  have ltx := Row.lt Rx.out
  go_wp2_with fail
  clear c0x c1x c2x ltx
  refine (c_toHeap (.slice paA nf qaA) (.slice pbA nl qbA) (.slice pcA nr qcA) hx _ (HZ.out.below L.out) HM.out).mono ?_
  rintro e w1 ⟨a1, b1, c1, rfl, ho, hb⟩
  have hsh := ho.shapes
  simp only [HNnf.out, HNnl.out, HNnr.out] at hsh
  obtain ⟨⟨pas, qas, rfl⟩, ⟨pbs, qbs, rfl⟩, ⟨pcs, qcs, rfl⟩⟩ := hsh
  have Os : Hid (OwnH w1 ws.heap.size w1.heap.size (.slice pas nf qas) (.slice pbs nl qbs) (.slice pcs nr qcs) hx) := ho
  clear ho
  replace Rx := Lib.hid (Row.below Rx.out hb)
  have S3 : Hid (ws.heap.size ≤ w1.heap.size) := hb.size
  replace L := Lib.hid (bst L.out hb L.out.size)
  clear hb
  have c0x := Row.cell Rx.out 0
  have c1x := Row.cell Rx.out 1
  have c2x := Row.cell Rx.out 2
  have ltx := Row.lt Rx.out
  go_wp2_with fail
  clear c0x c1x c2x ltx
  refine (c_toVI (.slice pmA nm qmA) (HMV.out.below L.out) HMnm.out).mono ?_
  rintro e w2 ⟨v1, rfl, ho, hb⟩
  obtain ⟨pmsv, qmsv, hsh⟩ := ho.1.shape
  rw [HNnm.out] at hsh
  subst hsh
  have Osv : Hid (OwnVI w2 w1.heap.size w2.heap.size (.slice pmsv nm qmsv) ms) := ho
  clear ho
  replace Rx := Lib.hid (Row.below Rx.out hb)
  replace Os := Lib.hid (OwnH.below Os.out hb)
  have S4 : Hid (w1.heap.size ≤ w2.heap.size) := hb.size
  replace L := Lib.hid (bst L.out hb L.out.size)
  clear hb
  have c0x := Row.cell Rx.out 0
  have c1x := Row.cell Rx.out 1
  have c2x := Row.cell Rx.out 2
  have ltx := Row.lt Rx.out
  go_wp2_with fail
  clear c0x c1x c2x ltx
  refine (HS.out _ (.slice pas nf qas) (.slice pbs nl qbs) (.slice pcs nr qcs) (.slice pmsv nm qmsv) Os.out.reads Osv.out.reads).mono ?_
  intro e wW hend
  obtain ⟨a1, b1, c1, d1, t1, loW, hiW, blW, bhW, rfl, ho, hd, hl, hb⟩ := endMM_span hend
  clear hend
  have hsh := ho.shapes
  simp only [HNgf.out, HNgl.out, HNgr.out, HNgc.out] at hsh
  obtain ⟨⟨paW, qaW, rfl⟩, ⟨pbW, qbW, rfl⟩, ⟨pcW, qcW, rfl⟩, ⟨pdW, qdW, rfl⟩⟩ := hsh
  obtain ⟨ptW, qtW, hsh⟩ := hd.reads.shape
  rw [HNgb.out] at hsh
  subst hsh
  have S5 : Hid (w2.heap.size ≤ loW ∧ loW ≤ hiW ∧ hiW ≤ wW.heap.size ∧ w2.heap.size ≤ blW ∧ blW ≤ bhW ∧ bhW ≤ wW.heap.size ∧ (bhW ≤ loW ∨ hiW ≤ blW)) := hl
  clear hl
  have OW : Hid (OwnM wW loW hiW (.slice paW gf qaW) (.slice pbW gl qbW) (.slice pcW gr qcW) (.slice pdW gc qdW) gh gz) := ho
  have OTW : Hid (OwnI wW blW bhW (.slice ptW gb qtW) gd) := hd
  clear ho hd
  replace Rx := Lib.hid (Row.below Rx.out hb)
  replace Os := Lib.hid (OwnH.below Os.out hb)
  replace Osv := Lib.hid (OwnVI.below Osv.out hb)
  have S6 : Hid (w2.heap.size ≤ wW.heap.size) := hb.size
  replace L := Lib.hid (bst L.out hb L.out.size)
  clear hb
  clear Os
  clear Osv
  have c0x := Row.cell Rx.out 0
  have c1x := Row.cell Rx.out 1
  have c2x := Row.cell Rx.out 2
  have ltx := Row.lt Rx.out
  go_wp2_with fail
  clear c0x c1x c2x ltx
  have hb := below1 wW (.cells (m4 (.slice paW gf qaW) (.slice pbW gl qbW) (.slice pcW gr qcW) (.slice pdW gc qdW)) 34)
  have RN : Hid (Row (wW.alloc (.cells (m4 (.slice paW gf qaW) (.slice pbW gl qbW) (.slice pcW gr qcW) (.slice pdW gc qdW)) 34)) wW.heap.size 34 (m4 (.slice paW gf qaW) (.slice pbW gl qbW) (.slice pcW gr qcW) (.slice pdW gc qdW))) := Row.new wW _ _
  have S7 : Hid (wW.heap.size < (wW.alloc (.cells (m4 (.slice paW gf qaW) (.slice pbW gl qbW) (.slice pcW gr qcW) (.slice pdW gc qdW)) 34)).heap.size) := (by unfold Hid; simp)
  replace Rx := Lib.hid (Row.below Rx.out hb)
  replace OW := Lib.hid (OwnM.below OW.out hb)
  replace OTW := Lib.hid (OwnI.below OTW.out hb)
  have S8 : Hid (wW.heap.size ≤ (wW.alloc (.cells (m4 (.slice paW gf qaW) (.slice pbW gl qbW) (.slice pcW gr qcW) (.slice pdW gc qdW)) 34)).heap.size) := hb.size
  replace L := Lib.hid (bst L.out hb L.out.size)
  clear hb
  have RW := RN
  clear RN
  refine (c_toHeap (.slice paA nf qaA) (.slice pbA nl qbA) (.slice pcA nr qcA) hx _ (HZ.out.below L.out) HM.out).mono ?_
  rintro e wX ⟨a1, b1, c1, rfl, ho, hb⟩
  have hsh := ho.shapes
  simp only [HNnf.out, HNnl.out, HNnr.out] at hsh
  obtain ⟨⟨paX, qaX, rfl⟩, ⟨pbX, qbX, rfl⟩, ⟨pcX, qcX, rfl⟩⟩ := hsh
  have OX : Hid (OwnH wX (wW.alloc (.cells (m4 (.slice paW gf qaW) (.slice pbW gl qbW) (.slice pcW gr qcW) (.slice pdW gc qdW)) 34)).heap.size wX.heap.size (.slice paX nf qaX) (.slice pbX nl qbX) (.slice pcX nr qcX) hx) := ho
  clear ho
  replace Rx := Lib.hid (Row.below Rx.out hb)
  replace RW := Lib.hid (Row.below RW.out hb)
  replace OW := Lib.hid (OwnM.below OW.out hb)
  replace OTW := Lib.hid (OwnI.below OTW.out hb)
  have S9 : Hid ((wW.alloc (.cells (m4 (.slice paW gf qaW) (.slice pbW gl qbW) (.slice pcW gr qcW) (.slice pdW gc qdW)) 34)).heap.size ≤ wX.heap.size) := hb.size
  replace L := Lib.hid (bst L.out hb L.out.size)
  clear hb
  have c0x := Row.cell Rx.out 0
  have c1x := Row.cell Rx.out 1
  have c2x := Row.cell Rx.out 2
  have ltx := Row.lt Rx.out
  have c0W := Row.cell RW.out 0
  have c1W := Row.cell RW.out 1
  have c2W := Row.cell RW.out 2
  have c3W := Row.cell RW.out 3
  have ltW := Row.lt RW.out
  go_wp2_with fail
  clear c0x c1x c2x ltx c0W c1W c2W c3W ltW
  have hb := below1 wX (.cells (c3 (.slice paX nf qaX) (.slice pbX nl qbX) (.slice pcX nr qcX)) 32)
  have RN : Hid (Row (wX.alloc (.cells (c3 (.slice paX nf qaX) (.slice pbX nl qbX) (.slice pcX nr qcX)) 32)) wX.heap.size 32 (c3 (.slice paX nf qaX) (.slice pbX nl qbX) (.slice pcX nr qcX))) := Row.new wX _ _
  have S10 : Hid (wX.heap.size < (wX.alloc (.cells (c3 (.slice paX nf qaX) (.slice pbX nl qbX) (.slice pcX nr qcX)) 32)).heap.size) := (by unfold Hid; simp)
  replace Rx := Lib.hid (Row.below Rx.out hb)
  replace RW := Lib.hid (Row.below RW.out hb)
  replace OW := Lib.hid (OwnM.below OW.out hb)
  replace OTW := Lib.hid (OwnI.below OTW.out hb)
  replace OX := Lib.hid (OwnH.below OX.out hb)
  have S11 : Hid (wX.heap.size ≤ (wX.alloc (.cells (c3 (.slice paX nf qaX) (.slice pbX nl qbX) (.slice pcX nr qcX)) 32)).heap.size) := hb.size
  replace L := Lib.hid (bst L.out hb L.out.size)
  clear hb
  have RX := RN
  clear RN
  refine (c_toVI (.slice pmA nm qmA) (HMV.out.below L.out) HMnm.out).mono ?_
  rintro e wV ⟨v1, rfl, ho, hb⟩
  obtain ⟨pmV, qmV, hsh⟩ := ho.1.shape
  rw [HNnm.out] at hsh
  subst hsh
  have OV : Hid (OwnVI wV (wX.alloc (.cells (c3 (.slice paX nf qaX) (.slice pbX nl qbX) (.slice pcX nr qcX)) 32)).heap.size wV.heap.size (.slice pmV nm qmV) ms) := ho
  clear ho
  replace Rx := Lib.hid (Row.below Rx.out hb)
  replace RW := Lib.hid (Row.below RW.out hb)
  replace RX := Lib.hid (Row.below RX.out hb)
  replace OW := Lib.hid (OwnM.below OW.out hb)
  replace OTW := Lib.hid (OwnI.below OTW.out hb)
  replace OX := Lib.hid (OwnH.below OX.out hb)
  have S12 : Hid ((wX.alloc (.cells (c3 (.slice paX nf qaX) (.slice pbX nl qbX) (.slice pcX nr qcX)) 32)).heap.size ≤ wV.heap.size) := hb.size
  replace L := Lib.hid (bst L.out hb L.out.size)
  clear hb
  have c0x := Row.cell Rx.out 0
  have c1x := Row.cell Rx.out 1
  have c2x := Row.cell Rx.out 2
  have ltx := Row.lt Rx.out
  have c0W := Row.cell RW.out 0
  have c1W := Row.cell RW.out 1
  have c2W := Row.cell RW.out 2
  have c3W := Row.cell RW.out 3
  have ltW := Row.lt RW.out
  have c0X := Row.cell RX.out 0
  have c1X := Row.cell RX.out 1
  have c2X := Row.cell RX.out 2
  have ltX := Row.lt RX.out
  go_wp2_with fail
  clear c0x c1x c2x ltx c0W c1W c2W c3W ltW c0X c1X c2X ltX
  refine (HI.out _ (.slice paX nf qaX) (.slice pbX nl qbX) (.slice pcX nr qcX) (.slice pmV nm qmV) OX.out.reads OV.out.reads).mono ?_
  intro e wG hend
  obtain ⟨a1, b1, c1, d1, t1, loG, hiG, blG, bhG, rfl, ho, hd, hl, hb⟩ := endMM_span hend
  clear hend
  have hsh := ho.shapes
  simp only [HNgf.out, HNgl.out, HNgr.out, HNgc.out] at hsh
  obtain ⟨⟨paG, qaG, rfl⟩, ⟨pbG, qbG, rfl⟩, ⟨pcG, qcG, rfl⟩, ⟨pdG, qdG, rfl⟩⟩ := hsh
  obtain ⟨ptG, qtG, hsh⟩ := hd.reads.shape
  rw [HNgb.out] at hsh
  subst hsh
  have S13 : Hid (wV.heap.size ≤ loG ∧ loG ≤ hiG ∧ hiG ≤ wG.heap.size ∧ wV.heap.size ≤ blG ∧ blG ≤ bhG ∧ bhG ≤ wG.heap.size ∧ (bhG ≤ loG ∨ hiG ≤ blG)) := hl
  clear hl
  have OG : Hid (OwnM wG loG hiG (.slice paG gf qaG) (.slice pbG gl qbG) (.slice pcG gr qcG) (.slice pdG gc qdG) gh gz) := ho
  have OTG : Hid (OwnI wG blG bhG (.slice ptG gb qtG) gd) := hd
  clear ho hd
  replace Rx := Lib.hid (Row.below Rx.out hb)
  replace RW := Lib.hid (Row.below RW.out hb)
  replace RX := Lib.hid (Row.below RX.out hb)
  replace OW := Lib.hid (OwnM.below OW.out hb)
  replace OTW := Lib.hid (OwnI.below OTW.out hb)
  replace OX := Lib.hid (OwnH.below OX.out hb)
  replace OV := Lib.hid (OwnVI.below OV.out hb)
  have S14 : Hid (wV.heap.size ≤ wG.heap.size) := hb.size
  replace L := Lib.hid (bst L.out hb L.out.size)
  clear hb
  have c0x := Row.cell Rx.out 0
  have c1x := Row.cell Rx.out 1
  have c2x := Row.cell Rx.out 2
  have ltx := Row.lt Rx.out
  have c0W := Row.cell RW.out 0
  have c1W := Row.cell RW.out 1
  have c2W := Row.cell RW.out 2
  have c3W := Row.cell RW.out 3
  have ltW := Row.lt RW.out
  have c0X := Row.cell RX.out 0
  have c1X := Row.cell RX.out 1
  have c2X := Row.cell RX.out 2
  have ltX := Row.lt RX.out
  go_wp2_with fail
  clear c0x c1x c2x ltx c0W c1W c2W c3W ltW c0X c1X c2X ltX
  have hb := below1 wG (.cells (m4 (.slice paG gf qaG) (.slice pbG gl qbG) (.slice pcG gr qcG) (.slice pdG gc qdG)) 34)
  have RN : Hid (Row (wG.alloc (.cells (m4 (.slice paG gf qaG) (.slice pbG gl qbG) (.slice pcG gr qcG) (.slice pdG gc qdG)) 34)) wG.heap.size 34 (m4 (.slice paG gf qaG) (.slice pbG gl qbG) (.slice pcG gr qcG) (.slice pdG gc qdG))) := Row.new wG _ _
  have S15 : Hid (wG.heap.size < (wG.alloc (.cells (m4 (.slice paG gf qaG) (.slice pbG gl qbG) (.slice pcG gr qcG) (.slice pdG gc qdG)) 34)).heap.size) := (by unfold Hid; simp)
  replace Rx := Lib.hid (Row.below Rx.out hb)
  replace RW := Lib.hid (Row.below RW.out hb)
  replace RX := Lib.hid (Row.below RX.out hb)
  replace OW := Lib.hid (OwnM.below OW.out hb)
  replace OTW := Lib.hid (OwnI.below OTW.out hb)
  replace OX := Lib.hid (OwnH.below OX.out hb)
  replace OV := Lib.hid (OwnVI.below OV.out hb)
  replace OG := Lib.hid (OwnM.below OG.out hb)
  replace OTG := Lib.hid (OwnI.below OTG.out hb)
  have S16 : Hid (wG.heap.size ≤ (wG.alloc (.cells (m4 (.slice paG gf qaG) (.slice pbG gl qbG) (.slice pcG gr qcG) (.slice pdG gc qdG)) 34)).heap.size) := hb.size
  replace L := Lib.hid (bst L.out hb L.out.size)
  clear hb
  have RG := RN
  clear RN
  refine (c_eqMarking (.slice paG gf qaG) (.slice pbG gl qbG) (.slice pcG gr qcG) (.slice pdG gc qdG) (.slice paW gf qaW) (.slice pbW gl qbW) (.slice pcW gr qcW) (.slice pdW gc qdW) gh gz _ OG.out.heap OG.out.cols OW.out.heap OW.out.cols HRZ.out.2.2.1 (by rw [HNgc.out]; exact HRZ.out.2.2.2.1)).mono ?_
  rintro e we1 ⟨rfl, hb⟩
  replace Rx := Lib.hid (Row.below Rx.out hb)
  replace RW := Lib.hid (Row.below RW.out hb)
  replace RX := Lib.hid (Row.below RX.out hb)
  replace RG := Lib.hid (Row.below RG.out hb)
  replace OW := Lib.hid (OwnM.below OW.out hb)
  replace OTW := Lib.hid (OwnI.below OTW.out hb)
  replace OX := Lib.hid (OwnH.below OX.out hb)
  replace OV := Lib.hid (OwnVI.below OV.out hb)
  replace OG := Lib.hid (OwnM.below OG.out hb)
  replace OTG := Lib.hid (OwnI.below OTG.out hb)
  have S17 : Hid ((wG.alloc (.cells (m4 (.slice paG gf qaG) (.slice pbG gl qbG) (.slice pcG gr qcG) (.slice pdG gc qdG)) 34)).heap.size ≤ we1.heap.size) := hb.size
  replace L := Lib.hid (bst L.out hb L.out.size)
  clear hb
  have c0x := Row.cell Rx.out 0
  have c1x := Row.cell Rx.out 1
  have c2x := Row.cell Rx.out 2
  have ltx := Row.lt Rx.out
  have c0W := Row.cell RW.out 0
  have c1W := Row.cell RW.out 1
  have c2W := Row.cell RW.out 2
  have c3W := Row.cell RW.out 3
  have ltW := Row.lt RW.out
  have c0X := Row.cell RX.out 0
  have c1X := Row.cell RX.out 1
  have c2X := Row.cell RX.out 2
  have ltX := Row.lt RX.out
  have c0G := Row.cell RG.out 0
  have c1G := Row.cell RG.out 1
  have c2G := Row.cell RG.out 2
  have c3G := Row.cell RG.out 3
  have ltG := Row.lt RG.out
  go_wp2_with fail
  clear c0x c1x c2x ltx c0W c1W c2W c3W ltW c0X c1X c2X ltX c0G c1G c2G c3G ltG
  refine (c_eqBoolS (.slice ptG gb qtG) (.slice ptW gb qtW) gd _ OTG.out.reads OTW.out.reads (by rw [HNgb.out]; have := HRZ.out.2.2.2.2; omega)).mono ?_
  rintro e we2 ⟨rfl, nd, hnd⟩
  have hb : Below we1.heap.size we1 we2 := by rw [hnd]; exact below_drewN (Below.refl _ _) nd
  clear hnd nd
  replace Rx := Lib.hid (Row.below Rx.out hb)
  replace RW := Lib.hid (Row.below RW.out hb)
  replace RX := Lib.hid (Row.below RX.out hb)
  replace RG := Lib.hid (Row.below RG.out hb)
  replace OW := Lib.hid (OwnM.below OW.out hb)
  replace OTW := Lib.hid (OwnI.below OTW.out hb)
  replace OX := Lib.hid (OwnH.below OX.out hb)
  replace OV := Lib.hid (OwnVI.below OV.out hb)
  replace OG := Lib.hid (OwnM.below OG.out hb)
  replace OTG := Lib.hid (OwnI.below OTG.out hb)
  have S18 : Hid (we1.heap.size ≤ we2.heap.size) := hb.size
  replace L := Lib.hid (bst L.out hb L.out.size)
  clear hb
  have c0x := Row.cell Rx.out 0
  have c1x := Row.cell Rx.out 1
  have c2x := Row.cell Rx.out 2
  have ltx := Row.lt Rx.out
  have c0W := Row.cell RW.out 0
  have c1W := Row.cell RW.out 1
  have c2W := Row.cell RW.out 2
  have c3W := Row.cell RW.out 3
  have ltW := Row.lt RW.out
  have c0X := Row.cell RX.out 0
  have c1X := Row.cell RX.out 1
  have c2X := Row.cell RX.out 2
  have ltX := Row.lt RX.out
  have c0G := Row.cell RG.out 0
  have c1G := Row.cell RG.out 1
  have c2G := Row.cell RG.out 2
  have c3G := Row.cell RG.out 3
  have ltG := Row.lt RG.out
  go_wp2_with fail
  clear c0x c1x c2x ltx c0W c1W c2W c3W ltW c0X c1X c2X ltX c0G c1G c2G c3G ltG
  have RR0 : we2.drew.cell? ⟨w.heap.size, 0, none⟩ = some (.slice paA nf qaA) := Row.cell Rx.out 0
  have RR1 : we2.drew.cell? ⟨w.heap.size, 1, none⟩ = some (.slice pbA nl qbA) := Row.cell Rx.out 1
  have RR2 : we2.drew.cell? ⟨w.heap.size, 2, none⟩ = some (.slice pcA nr qcA) := Row.cell Rx.out 2
  have RX0 : we2.drew.cell? ⟨wX.heap.size, 0, none⟩ = some (.slice paX nf qaX) := Row.cell RX.out 0
  have RX1 : we2.drew.cell? ⟨wX.heap.size, 1, none⟩ = some (.slice pbX nl qbX) := Row.cell RX.out 1
  have RX2 : we2.drew.cell? ⟨wX.heap.size, 2, none⟩ = some (.slice pcX nr qcX) := Row.cell RX.out 2
  have BD := below_drew (Below.refl we2.heap.size we2)
  have IZ := Lib.hid (HZ.out.below (below_drew L.out)); have IX := Lib.hid (OX.out.reads.below BD)
  go_region_held3 (fun w' => w'.cell? ⟨w.heap.size, 0, none⟩ = some (.slice paA nf qaA) ∧ w'.cell? ⟨w.heap.size, 1, none⟩ = some (.slice pbA nl qbA) ∧ w'.cell? ⟨w.heap.size, 2, none⟩ = some (.slice pcA nr qcA) ∧ w'.cell? ⟨wX.heap.size, 0, none⟩ = some (.slice paX nf qaX) ∧ w'.cell? ⟨wX.heap.size, 1, none⟩ = some (.slice pbX nl qbX) ∧ w'.cell? ⟨wX.heap.size, 2, none⟩ = some (.slice pcX nr qcX) ∧ Below we2.heap.size we2 w')
    (first
      | (with_reducible exact ⟨RR0, RR1, RR2, RX0, RX1, RX2, BD⟩)
      | (go_split_ands
         exact ⟨cellBelow hbk (Nat.le_refl _) (by assumption), cellBelow hbk (Nat.le_refl _) (by assumption), cellBelow hbk (Nat.le_refl _) (by assumption), cellBelow hbk (Nat.le_refl _) (by assumption), cellBelow hbk (Nat.le_refl _) (by assumption), cellBelow hbk (Nat.le_refl _) (by assumption), bst (by assumption) hbk (Below.size (by assumption))⟩)
      | (go_split_ands; refine ⟨?_, ?_, ?_, ?_, ?_, ?_, ?_⟩ <;> assumption))
    (first
      | (go_at_call 28; refine (c_toHeap (.slice paA nf qaA) (.slice pbA nl qbA) (.slice pcA nr qcA) hx _ IZ.out HM.out).mono ?_; rintro e wD1 ⟨aD, bD, cD, rfl, hoD, hbk⟩; have OD := Lib.hid hoD.reads; have XD := Lib.hid (IX.out.below hbk); clear hoD)
      | (go_at_call 32; refine (c_eqHeap _ _ _ _ _ _ hx _ XD.out OD.out HM.out).mono ?_; rintro e wD2 ⟨rfl, hbk⟩))
  have hb : Below we2.heap.size we2 wD2 := by go_split_ands; assumption
  clear OD XD IZ IX RR0 RX0 RR1 RX1 RR2 RX2 BD
  replace Rx := Lib.hid (Row.below Rx.out hb)
  replace RW := Lib.hid (Row.below RW.out hb)
  replace RX := Lib.hid (Row.below RX.out hb)
  replace RG := Lib.hid (Row.below RG.out hb)
  replace OW := Lib.hid (OwnM.below OW.out hb)
  replace OTW := Lib.hid (OwnI.below OTW.out hb)
  replace OX := Lib.hid (OwnH.below OX.out hb)
  replace OV := Lib.hid (OwnVI.below OV.out hb)
  replace OG := Lib.hid (OwnM.below OG.out hb)
  replace OTG := Lib.hid (OwnI.below OTG.out hb)
  have S19 : Hid (we2.heap.size ≤ wD2.heap.size) := hb.size
  replace L := Lib.hid (bst L.out hb L.out.size)
  clear hb
  have c0x := Row.cell Rx.out 0
  have c1x := Row.cell Rx.out 1
  have c2x := Row.cell Rx.out 2
  have ltx := Row.lt Rx.out
  have c0W := Row.cell RW.out 0
  have c1W := Row.cell RW.out 1
  have c2W := Row.cell RW.out 2
  have c3W := Row.cell RW.out 3
  have ltW := Row.lt RW.out
  have c0X := Row.cell RX.out 0
  have c1X := Row.cell RX.out 1
  have c2X := Row.cell RX.out 2
  have ltX := Row.lt RX.out
  have c0G := Row.cell RG.out 0
  have c1G := Row.cell RG.out 1
  have c2G := Row.cell RG.out 2
  have c3G := Row.cell RG.out 3
  have ltG := Row.lt RG.out
  go_wp2_with fail
  clear c0x c1x c2x ltx c0W c1W c2W c3W ltW c0X c1X c2X ltX c0G c1G c2G c3G ltG
  refine (c_toVI (.slice pmA nm qmA) (HMV.out.below L.out) HMnm.out).mono ?_
  rintro e wD3 ⟨v1, rfl, ho, hb⟩
  obtain ⟨pmD, qmD, hsh⟩ := ho.1.shape
  rw [HNnm.out] at hsh
  subst hsh
  have OD : Hid (OwnVI wD3 wD2.heap.size wD3.heap.size (.slice pmD nm qmD) ms) := ho
  clear ho
  replace Rx := Lib.hid (Row.below Rx.out hb)
  replace RW := Lib.hid (Row.below RW.out hb)
  replace RX := Lib.hid (Row.below RX.out hb)
  replace RG := Lib.hid (Row.below RG.out hb)
  replace OW := Lib.hid (OwnM.below OW.out hb)
  replace OTW := Lib.hid (OwnI.below OTW.out hb)
  replace OX := Lib.hid (OwnH.below OX.out hb)
  replace OV := Lib.hid (OwnVI.below OV.out hb)
  replace OG := Lib.hid (OwnM.below OG.out hb)
  replace OTG := Lib.hid (OwnI.below OTG.out hb)
  have S20 : Hid (wD2.heap.size ≤ wD3.heap.size) := hb.size
  replace L := Lib.hid (bst L.out hb L.out.size)
  clear hb
  have c0x := Row.cell Rx.out 0
  have c1x := Row.cell Rx.out 1
  have c2x := Row.cell Rx.out 2
  have ltx := Row.lt Rx.out
  have c0W := Row.cell RW.out 0
  have c1W := Row.cell RW.out 1
  have c2W := Row.cell RW.out 2
  have c3W := Row.cell RW.out 3
  have ltW := Row.lt RW.out
  have c0X := Row.cell RX.out 0
  have c1X := Row.cell RX.out 1
  have c2X := Row.cell RX.out 2
  have ltX := Row.lt RX.out
  have c0G := Row.cell RG.out 0
  have c1G := Row.cell RG.out 1
  have c2G := Row.cell RG.out 2
  have c3G := Row.cell RG.out 3
  have ltG := Row.lt RG.out
  go_wp2_with fail
  clear c0x c1x c2x ltx c0W c1W c2W c3W ltW c0X c1X c2X ltX c0G c1G c2G c3G ltG
  refine (c_eqMoveS (.slice pmV nm qmV) (.slice pmD nm qmD) ms _ OV.out.reads OD.out.reads HMnm.out).mono ?_
  rintro e wD4 ⟨rfl, hb⟩
  replace Rx := Lib.hid (Row.below Rx.out hb)
  replace RW := Lib.hid (Row.below RW.out hb)
  replace RX := Lib.hid (Row.below RX.out hb)
  replace RG := Lib.hid (Row.below RG.out hb)
  replace OW := Lib.hid (OwnM.below OW.out hb)
  replace OTW := Lib.hid (OwnI.below OTW.out hb)
  replace OX := Lib.hid (OwnH.below OX.out hb)
  replace OV := Lib.hid (OwnVI.below OV.out hb)
  replace OG := Lib.hid (OwnM.below OG.out hb)
  replace OTG := Lib.hid (OwnI.below OTG.out hb)
  replace OD := Lib.hid (OwnVI.below OD.out hb)
  have S21 : Hid (wD3.heap.size ≤ wD4.heap.size) := hb.size
  replace L := Lib.hid (bst L.out hb L.out.size)
  clear hb
  clear OD
  have c0x := Row.cell Rx.out 0
  have c1x := Row.cell Rx.out 1
  have c2x := Row.cell Rx.out 2
  have ltx := Row.lt Rx.out
  have c0W := Row.cell RW.out 0
  have c1W := Row.cell RW.out 1
  have c2W := Row.cell RW.out 2
  have c3W := Row.cell RW.out 3
  have ltW := Row.lt RW.out
  have c0X := Row.cell RX.out 0
  have c1X := Row.cell RX.out 1
  have c2X := Row.cell RX.out 2
  have ltX := Row.lt RX.out
  have c0G := Row.cell RG.out 0
  have c1G := Row.cell RG.out 1
  have c2G := Row.cell RG.out 2
  have c3G := Row.cell RG.out 3
  have ltG := Row.lt RG.out
  go_wp2_with fail
  clear c0x c1x c2x ltx c0W c1W c2W c3W ltW c0X c1X c2X ltX c0G c1G c2G c3G ltG
  refine (c_markHeap (wW.alloc (.cells (m4 (.slice paW gf qaW) (.slice pbW gl qbW) (.slice pcW gr qcW) (.slice pdW gc qdW)) 34)).heap.size wX.heap.size (.slice paX nf qaX) (.slice pbX nl qbX) (.slice pcX nr qcX) hx 1 _ OX.out (by omega) (by rw [HSM.out]; have h9 := HSZ.out.1; omega) (by rw [HNnf.out]; have := HSZ.out.2; omega) (by have := S1.out; have := S2.out; have := S3.out; have := S4.out; have := S5.out; have := S6.out; have := S7.out; have := S8.out; have := S9.out; have := S10.out; have := S11.out; have := S12.out; have := S13.out; have := S14.out; have := S15.out; have := S16.out; have := S17.out; have := S18.out; have := S19.out; have := S20.out; have := S21.out; omega)).mono ?_
  rintro e wm1 ⟨rfl, ho, hch⟩
  rw [HSM.out]
  clear ho
  have Qx : Hid (w.heap.size < wD4.heap.size) := Row.lt Rx.out
  have QW : Hid (wW.heap.size < wD4.heap.size) := Row.lt RW.out
  have QX : Hid (wX.heap.size < wD4.heap.size) := Row.lt RX.out
  have QG : Hid (wG.heap.size < wD4.heap.size) := Row.lt RG.out
  replace Rx := Lib.hid (Row.chg Rx.out hch (by have := S1.out; have := S2.out; have := S3.out; have := S4.out; have := S5.out; have := S6.out; have := S7.out; have := S8.out; have := S9.out; have := S10.out; have := S11.out; have := S12.out; have := S13.out; have := S14.out; have := S15.out; have := S16.out; have := S17.out; have := S18.out; have := S19.out; have := S20.out; have := S21.out; have := Qx.out; omega))
  replace RW := Lib.hid (Row.chg RW.out hch (by have := S1.out; have := S2.out; have := S3.out; have := S4.out; have := S5.out; have := S6.out; have := S7.out; have := S8.out; have := S9.out; have := S10.out; have := S11.out; have := S12.out; have := S13.out; have := S14.out; have := S15.out; have := S16.out; have := S17.out; have := S18.out; have := S19.out; have := S20.out; have := S21.out; have := QW.out; omega))
  replace RX := Lib.hid (Row.chg RX.out hch (by have := S1.out; have := S2.out; have := S3.out; have := S4.out; have := S5.out; have := S6.out; have := S7.out; have := S8.out; have := S9.out; have := S10.out; have := S11.out; have := S12.out; have := S13.out; have := S14.out; have := S15.out; have := S16.out; have := S17.out; have := S18.out; have := S19.out; have := S20.out; have := S21.out; have := QX.out; omega))
  replace RG := Lib.hid (Row.chg RG.out hch (by have := S1.out; have := S2.out; have := S3.out; have := S4.out; have := S5.out; have := S6.out; have := S7.out; have := S8.out; have := S9.out; have := S10.out; have := S11.out; have := S12.out; have := S13.out; have := S14.out; have := S15.out; have := S16.out; have := S17.out; have := S18.out; have := S19.out; have := S20.out; have := S21.out; have := QG.out; omega))
  replace OW := Lib.hid (OwnM.chg OW.out hch (by have := S1.out; have := S2.out; have := S3.out; have := S4.out; have := S5.out; have := S6.out; have := S7.out; have := S8.out; have := S9.out; have := S10.out; have := S11.out; have := S12.out; have := S13.out; have := S14.out; have := S15.out; have := S16.out; have := S17.out; have := S18.out; have := S19.out; have := S20.out; have := S21.out; omega))
  replace OTW := Lib.hid (OwnI.chg OTW.out hch (by have := S1.out; have := S2.out; have := S3.out; have := S4.out; have := S5.out; have := S6.out; have := S7.out; have := S8.out; have := S9.out; have := S10.out; have := S11.out; have := S12.out; have := S13.out; have := S14.out; have := S15.out; have := S16.out; have := S17.out; have := S18.out; have := S19.out; have := S20.out; have := S21.out; omega))
  replace OV := Lib.hid (OwnVI.chg OV.out hch (by have := S1.out; have := S2.out; have := S3.out; have := S4.out; have := S5.out; have := S6.out; have := S7.out; have := S8.out; have := S9.out; have := S10.out; have := S11.out; have := S12.out; have := S13.out; have := S14.out; have := S15.out; have := S16.out; have := S17.out; have := S18.out; have := S19.out; have := S20.out; have := S21.out; omega))
  replace OG := Lib.hid (OwnM.chg OG.out hch (by have := S1.out; have := S2.out; have := S3.out; have := S4.out; have := S5.out; have := S6.out; have := S7.out; have := S8.out; have := S9.out; have := S10.out; have := S11.out; have := S12.out; have := S13.out; have := S14.out; have := S15.out; have := S16.out; have := S17.out; have := S18.out; have := S19.out; have := S20.out; have := S21.out; omega))
  replace OTG := Lib.hid (OwnI.chg OTG.out hch (by have := S1.out; have := S2.out; have := S3.out; have := S4.out; have := S5.out; have := S6.out; have := S7.out; have := S8.out; have := S9.out; have := S10.out; have := S11.out; have := S12.out; have := S13.out; have := S14.out; have := S15.out; have := S16.out; have := S17.out; have := S18.out; have := S19.out; have := S20.out; have := S21.out; omega))
  replace L := Lib.hid (below_chg L.out hch (by have := S1.out; have := S2.out; have := S3.out; have := S4.out; have := S5.out; have := S6.out; have := S7.out; have := S8.out; have := S9.out; have := S10.out; have := S11.out; have := S12.out; have := S13.out; have := S14.out; have := S15.out; have := S16.out; have := S17.out; have := S18.out; have := S19.out; have := S20.out; have := S21.out; have := Qx.out; omega) L.out.size)
  have S22 : Hid (wD4.heap.size ≤ wm1.heap.size) := hch.size
  clear hch Qx QW QX QG
  clear OX
  have c0x := Row.cell Rx.out 0
  have c1x := Row.cell Rx.out 1
  have c2x := Row.cell Rx.out 2
  have ltx := Row.lt Rx.out
  have c0W := Row.cell RW.out 0
  have c1W := Row.cell RW.out 1
  have c2W := Row.cell RW.out 2
  have c3W := Row.cell RW.out 3
  have ltW := Row.lt RW.out
  have c0X := Row.cell RX.out 0
  have c1X := Row.cell RX.out 1
  have c2X := Row.cell RX.out 2
  have ltX := Row.lt RX.out
  have c0G := Row.cell RG.out 0
  have c1G := Row.cell RG.out 1
  have c2G := Row.cell RG.out 2
  have c3G := Row.cell RG.out 3
  have ltG := Row.lt RG.out
  go_wp2_with fail
  clear c0x c1x c2x ltx c0W c1W c2W c3W ltW c0X c1X c2X ltX c0G c1G c2G c3G ltG
  refine (c_markVI (1 + (sz : Int)) OV.out (by omega) (by rw [HNnm.out]; have h9 := HSZ.out.1; omega)).mono ?_
  rintro e wm2 ⟨rfl, hch⟩
  rw [HNnm.out]
  have Qx : Hid (w.heap.size < wm1.heap.size) := Row.lt Rx.out
  have QW : Hid (wW.heap.size < wm1.heap.size) := Row.lt RW.out
  have QX : Hid (wX.heap.size < wm1.heap.size) := Row.lt RX.out
  have QG : Hid (wG.heap.size < wm1.heap.size) := Row.lt RG.out
  replace Rx := Lib.hid (Row.chg Rx.out hch (by have := S1.out; have := S2.out; have := S3.out; have := S4.out; have := S5.out; have := S6.out; have := S7.out; have := S8.out; have := S9.out; have := S10.out; have := S11.out; have := S12.out; have := S13.out; have := S14.out; have := S15.out; have := S16.out; have := S17.out; have := S18.out; have := S19.out; have := S20.out; have := S21.out; have := S22.out; have := Qx.out; omega))
  replace RW := Lib.hid (Row.chg RW.out hch (by have := S1.out; have := S2.out; have := S3.out; have := S4.out; have := S5.out; have := S6.out; have := S7.out; have := S8.out; have := S9.out; have := S10.out; have := S11.out; have := S12.out; have := S13.out; have := S14.out; have := S15.out; have := S16.out; have := S17.out; have := S18.out; have := S19.out; have := S20.out; have := S21.out; have := S22.out; have := QW.out; omega))
  replace RX := Lib.hid (Row.chg RX.out hch (by have := S1.out; have := S2.out; have := S3.out; have := S4.out; have := S5.out; have := S6.out; have := S7.out; have := S8.out; have := S9.out; have := S10.out; have := S11.out; have := S12.out; have := S13.out; have := S14.out; have := S15.out; have := S16.out; have := S17.out; have := S18.out; have := S19.out; have := S20.out; have := S21.out; have := S22.out; have := QX.out; omega))
  replace RG := Lib.hid (Row.chg RG.out hch (by have := S1.out; have := S2.out; have := S3.out; have := S4.out; have := S5.out; have := S6.out; have := S7.out; have := S8.out; have := S9.out; have := S10.out; have := S11.out; have := S12.out; have := S13.out; have := S14.out; have := S15.out; have := S16.out; have := S17.out; have := S18.out; have := S19.out; have := S20.out; have := S21.out; have := S22.out; have := QG.out; omega))
  replace OW := Lib.hid (OwnM.chg OW.out hch (by have := S1.out; have := S2.out; have := S3.out; have := S4.out; have := S5.out; have := S6.out; have := S7.out; have := S8.out; have := S9.out; have := S10.out; have := S11.out; have := S12.out; have := S13.out; have := S14.out; have := S15.out; have := S16.out; have := S17.out; have := S18.out; have := S19.out; have := S20.out; have := S21.out; have := S22.out; omega))
  replace OTW := Lib.hid (OwnI.chg OTW.out hch (by have := S1.out; have := S2.out; have := S3.out; have := S4.out; have := S5.out; have := S6.out; have := S7.out; have := S8.out; have := S9.out; have := S10.out; have := S11.out; have := S12.out; have := S13.out; have := S14.out; have := S15.out; have := S16.out; have := S17.out; have := S18.out; have := S19.out; have := S20.out; have := S21.out; have := S22.out; omega))
  replace OG := Lib.hid (OwnM.chg OG.out hch (by have := S1.out; have := S2.out; have := S3.out; have := S4.out; have := S5.out; have := S6.out; have := S7.out; have := S8.out; have := S9.out; have := S10.out; have := S11.out; have := S12.out; have := S13.out; have := S14.out; have := S15.out; have := S16.out; have := S17.out; have := S18.out; have := S19.out; have := S20.out; have := S21.out; have := S22.out; omega))
  replace OTG := Lib.hid (OwnI.chg OTG.out hch (by have := S1.out; have := S2.out; have := S3.out; have := S4.out; have := S5.out; have := S6.out; have := S7.out; have := S8.out; have := S9.out; have := S10.out; have := S11.out; have := S12.out; have := S13.out; have := S14.out; have := S15.out; have := S16.out; have := S17.out; have := S18.out; have := S19.out; have := S20.out; have := S21.out; have := S22.out; omega))
  replace L := Lib.hid (below_chg L.out hch (by have := S1.out; have := S2.out; have := S3.out; have := S4.out; have := S5.out; have := S6.out; have := S7.out; have := S8.out; have := S9.out; have := S10.out; have := S11.out; have := S12.out; have := S13.out; have := S14.out; have := S15.out; have := S16.out; have := S17.out; have := S18.out; have := S19.out; have := S20.out; have := S21.out; have := S22.out; have := Qx.out; omega) L.out.size)
  have S23 : Hid (wm1.heap.size ≤ wm2.heap.size) := hch.size
  clear hch Qx QW QX QG
  clear OV
  have c0x := Row.cell Rx.out 0
  have c1x := Row.cell Rx.out 1
  have c2x := Row.cell Rx.out 2
  have ltx := Row.lt Rx.out
  have c0W := Row.cell RW.out 0
  have c1W := Row.cell RW.out 1
  have c2W := Row.cell RW.out 2
  have c3W := Row.cell RW.out 3
  have ltW := Row.lt RW.out
  have c0X := Row.cell RX.out 0
  have c1X := Row.cell RX.out 1
  have c2X := Row.cell RX.out 2
  have ltX := Row.lt RX.out
  have c0G := Row.cell RG.out 0
  have c1G := Row.cell RG.out 1
  have c2G := Row.cell RG.out 2
  have c3G := Row.cell RG.out 3
  have ltG := Row.lt RG.out
  go_wp2_with fail
  clear c0x c1x c2x ltx c0W c1W c2W c3W ltW c0X c1X c2X ltX c0G c1G c2G c3G ltG
  refine (c_eqMarking (.slice paG gf qaG) (.slice pbG gl qbG) (.slice pcG gr qcG) (.slice pdG gc qdG) (.slice paW gf qaW) (.slice pbW gl qbW) (.slice pcW gr qcW) (.slice pdW gc qdW) gh gz _ OG.out.heap OG.out.cols OW.out.heap OW.out.cols HRZ.out.2.2.1 (by rw [HNgc.out]; exact HRZ.out.2.2.2.1)).mono ?_
  rintro e wf1 ⟨rfl, hb⟩
  replace Rx := Lib.hid (Row.below Rx.out hb)
  replace RW := Lib.hid (Row.below RW.out hb)
  replace RX := Lib.hid (Row.below RX.out hb)
  replace RG := Lib.hid (Row.below RG.out hb)
  replace OW := Lib.hid (OwnM.below OW.out hb)
  replace OTW := Lib.hid (OwnI.below OTW.out hb)
  replace OG := Lib.hid (OwnM.below OG.out hb)
  replace OTG := Lib.hid (OwnI.below OTG.out hb)
  have S24 : Hid (wm2.heap.size ≤ wf1.heap.size) := hb.size
  replace L := Lib.hid (bst L.out hb L.out.size)
  clear hb
  have c0x := Row.cell Rx.out 0
  have c1x := Row.cell Rx.out 1
  have c2x := Row.cell Rx.out 2
  have ltx := Row.lt Rx.out
  have c0W := Row.cell RW.out 0
  have c1W := Row.cell RW.out 1
  have c2W := Row.cell RW.out 2
  have c3W := Row.cell RW.out 3
  have ltW := Row.lt RW.out
  have c0X := Row.cell RX.out 0
  have c1X := Row.cell RX.out 1
  have c2X := Row.cell RX.out 2
  have ltX := Row.lt RX.out
  have c0G := Row.cell RG.out 0
  have c1G := Row.cell RG.out 1
  have c2G := Row.cell RG.out 2
  have c3G := Row.cell RG.out 3
  have ltG := Row.lt RG.out
  go_wp2_with fail
  clear c0x c1x c2x ltx c0W c1W c2W c3W ltW c0X c1X c2X ltX c0G c1G c2G c3G ltG
  refine (c_eqBoolS (.slice ptG gb qtG) (.slice ptW gb qtW) gd _ OTG.out.reads OTW.out.reads (by rw [HNgb.out]; have := HRZ.out.2.2.2.2; omega)).mono ?_
  rintro e wf2 ⟨rfl, nd, hnd⟩
  have hb : Below wf1.heap.size wf1 wf2 := by rw [hnd]; exact below_drewN (Below.refl _ _) nd
  clear hnd nd
  replace Rx := Lib.hid (Row.below Rx.out hb)
  replace RW := Lib.hid (Row.below RW.out hb)
  replace RX := Lib.hid (Row.below RX.out hb)
  replace RG := Lib.hid (Row.below RG.out hb)
  replace OW := Lib.hid (OwnM.below OW.out hb)
  replace OTW := Lib.hid (OwnI.below OTW.out hb)
  replace OG := Lib.hid (OwnM.below OG.out hb)
  replace OTG := Lib.hid (OwnI.below OTG.out hb)
  have S25 : Hid (wf1.heap.size ≤ wf2.heap.size) := hb.size
  replace L := Lib.hid (bst L.out hb L.out.size)
  clear hb
  have c0x := Row.cell Rx.out 0
  have c1x := Row.cell Rx.out 1
  have c2x := Row.cell Rx.out 2
  have ltx := Row.lt Rx.out
  have c0W := Row.cell RW.out 0
  have c1W := Row.cell RW.out 1
  have c2W := Row.cell RW.out 2
  have c3W := Row.cell RW.out 3
  have ltW := Row.lt RW.out
  have c0X := Row.cell RX.out 0
  have c1X := Row.cell RX.out 1
  have c2X := Row.cell RX.out 2
  have ltX := Row.lt RX.out
  have c0G := Row.cell RG.out 0
  have c1G := Row.cell RG.out 1
  have c2G := Row.cell RG.out 2
  have c3G := Row.cell RG.out 3
  have ltG := Row.lt RG.out
  go_wp2_with fail
  clear c0x c1x c2x ltx c0W c1W c2W c3W ltW c0X c1X c2X ltX c0G c1G c2G c3G ltG
  refine (c_markMarking loG hiG (.slice paG gf qaG) (.slice pbG gl qbG) (.slice pcG gr qcG) (.slice pdG gc qdG) gh gz 1 _ OG.out (by omega) (by rw [HSMg.out, HNgc.out]; have h9 := HB9.out; omega) (by rw [HNgf.out]; have h9 := HB9.out; omega) (by have := S1.out; have := S2.out; have := S3.out; have := S4.out; have := S5.out; have := S6.out; have := S7.out; have := S8.out; have := S9.out; have := S10.out; have := S11.out; have := S12.out; have := S13.out; have := S14.out; have := S15.out; have := S16.out; have := S17.out; have := S18.out; have := S19.out; have := S20.out; have := S21.out; have := S22.out; have := S23.out; have := S24.out; have := S25.out; omega)).mono ?_
  rintro e wm3 ⟨rfl, ho, hch⟩
  rw [HSMg.out, HNgc.out] at ho ⊢
  have Qx : Hid (w.heap.size < wf2.heap.size) := Row.lt Rx.out
  have QW : Hid (wW.heap.size < wf2.heap.size) := Row.lt RW.out
  have QX : Hid (wX.heap.size < wf2.heap.size) := Row.lt RX.out
  have QG : Hid (wG.heap.size < wf2.heap.size) := Row.lt RG.out
  replace Rx := Lib.hid (Row.chg Rx.out hch (by have := S1.out; have := S2.out; have := S3.out; have := S4.out; have := S5.out; have := S6.out; have := S7.out; have := S8.out; have := S9.out; have := S10.out; have := S11.out; have := S12.out; have := S13.out; have := S14.out; have := S15.out; have := S16.out; have := S17.out; have := S18.out; have := S19.out; have := S20.out; have := S21.out; have := S22.out; have := S23.out; have := S24.out; have := S25.out; have := Qx.out; omega))
  replace RW := Lib.hid (Row.chg RW.out hch (by have := S1.out; have := S2.out; have := S3.out; have := S4.out; have := S5.out; have := S6.out; have := S7.out; have := S8.out; have := S9.out; have := S10.out; have := S11.out; have := S12.out; have := S13.out; have := S14.out; have := S15.out; have := S16.out; have := S17.out; have := S18.out; have := S19.out; have := S20.out; have := S21.out; have := S22.out; have := S23.out; have := S24.out; have := S25.out; have := QW.out; omega))
  replace RX := Lib.hid (Row.chg RX.out hch (by have := S1.out; have := S2.out; have := S3.out; have := S4.out; have := S5.out; have := S6.out; have := S7.out; have := S8.out; have := S9.out; have := S10.out; have := S11.out; have := S12.out; have := S13.out; have := S14.out; have := S15.out; have := S16.out; have := S17.out; have := S18.out; have := S19.out; have := S20.out; have := S21.out; have := S22.out; have := S23.out; have := S24.out; have := S25.out; have := QX.out; omega))
  replace RG := Lib.hid (Row.chg RG.out hch (by have := S1.out; have := S2.out; have := S3.out; have := S4.out; have := S5.out; have := S6.out; have := S7.out; have := S8.out; have := S9.out; have := S10.out; have := S11.out; have := S12.out; have := S13.out; have := S14.out; have := S15.out; have := S16.out; have := S17.out; have := S18.out; have := S19.out; have := S20.out; have := S21.out; have := S22.out; have := S23.out; have := S24.out; have := S25.out; have := QG.out; omega))
  replace OW := Lib.hid (OwnM.chg OW.out hch (by have := S1.out; have := S2.out; have := S3.out; have := S4.out; have := S5.out; have := S6.out; have := S7.out; have := S8.out; have := S9.out; have := S10.out; have := S11.out; have := S12.out; have := S13.out; have := S14.out; have := S15.out; have := S16.out; have := S17.out; have := S18.out; have := S19.out; have := S20.out; have := S21.out; have := S22.out; have := S23.out; have := S24.out; have := S25.out; omega))
  replace OTW := Lib.hid (OwnI.chg OTW.out hch (by have := S1.out; have := S2.out; have := S3.out; have := S4.out; have := S5.out; have := S6.out; have := S7.out; have := S8.out; have := S9.out; have := S10.out; have := S11.out; have := S12.out; have := S13.out; have := S14.out; have := S15.out; have := S16.out; have := S17.out; have := S18.out; have := S19.out; have := S20.out; have := S21.out; have := S22.out; have := S23.out; have := S24.out; have := S25.out; omega))
  replace OTG := Lib.hid (OwnI.chg OTG.out hch (by have := S1.out; have := S2.out; have := S3.out; have := S4.out; have := S5.out; have := S6.out; have := S7.out; have := S8.out; have := S9.out; have := S10.out; have := S11.out; have := S12.out; have := S13.out; have := S14.out; have := S15.out; have := S16.out; have := S17.out; have := S18.out; have := S19.out; have := S20.out; have := S21.out; have := S22.out; have := S23.out; have := S24.out; have := S25.out; omega))
  replace L := Lib.hid (below_chg L.out hch (by have := S1.out; have := S2.out; have := S3.out; have := S4.out; have := S5.out; have := S6.out; have := S7.out; have := S8.out; have := S9.out; have := S10.out; have := S11.out; have := S12.out; have := S13.out; have := S14.out; have := S15.out; have := S16.out; have := S17.out; have := S18.out; have := S19.out; have := S20.out; have := S21.out; have := S22.out; have := S23.out; have := S24.out; have := S25.out; have := Qx.out; omega) L.out.size)
  have S26 : Hid (wf2.heap.size ≤ wm3.heap.size) := hch.size
  clear hch Qx QW QX QG
  replace OG := Lib.hid ho
  clear ho
  have c0x := Row.cell Rx.out 0
  have c1x := Row.cell Rx.out 1
  have c2x := Row.cell Rx.out 2
  have ltx := Row.lt Rx.out
  have c0W := Row.cell RW.out 0
  have c1W := Row.cell RW.out 1
  have c2W := Row.cell RW.out 2
  have c3W := Row.cell RW.out 3
  have ltW := Row.lt RW.out
  have c0X := Row.cell RX.out 0
  have c1X := Row.cell RX.out 1
  have c2X := Row.cell RX.out 2
  have ltX := Row.lt RX.out
  have c0G := Row.cell RG.out 0
  have c1G := Row.cell RG.out 1
  have c2G := Row.cell RG.out 2
  have c3G := Row.cell RG.out 3
  have ltG := Row.lt RG.out
  go_wp2_with fail
  clear c0x c1x c2x ltx c0W c1W c2W c3W ltW c0X c1X c2X ltX c0G c1G c2G c3G ltG
  refine (c_markI (1 + (szg : Int) + (gc : Int)) OTG.out (by omega) (by rw [HNgb.out]; have h9 := HB9.out; omega)).mono ?_
  rintro e wm4 ⟨rfl, ho, hch⟩
  rw [HNgb.out] at ho ⊢
  have Qx : Hid (w.heap.size < wm3.heap.size) := Row.lt Rx.out
  have QW : Hid (wW.heap.size < wm3.heap.size) := Row.lt RW.out
  have QX : Hid (wX.heap.size < wm3.heap.size) := Row.lt RX.out
  have QG : Hid (wG.heap.size < wm3.heap.size) := Row.lt RG.out
  replace Rx := Lib.hid (Row.chg Rx.out hch (by have := S1.out; have := S2.out; have := S3.out; have := S4.out; have := S5.out; have := S6.out; have := S7.out; have := S8.out; have := S9.out; have := S10.out; have := S11.out; have := S12.out; have := S13.out; have := S14.out; have := S15.out; have := S16.out; have := S17.out; have := S18.out; have := S19.out; have := S20.out; have := S21.out; have := S22.out; have := S23.out; have := S24.out; have := S25.out; have := S26.out; have := Qx.out; omega))
  replace RW := Lib.hid (Row.chg RW.out hch (by have := S1.out; have := S2.out; have := S3.out; have := S4.out; have := S5.out; have := S6.out; have := S7.out; have := S8.out; have := S9.out; have := S10.out; have := S11.out; have := S12.out; have := S13.out; have := S14.out; have := S15.out; have := S16.out; have := S17.out; have := S18.out; have := S19.out; have := S20.out; have := S21.out; have := S22.out; have := S23.out; have := S24.out; have := S25.out; have := S26.out; have := QW.out; omega))
  replace RX := Lib.hid (Row.chg RX.out hch (by have := S1.out; have := S2.out; have := S3.out; have := S4.out; have := S5.out; have := S6.out; have := S7.out; have := S8.out; have := S9.out; have := S10.out; have := S11.out; have := S12.out; have := S13.out; have := S14.out; have := S15.out; have := S16.out; have := S17.out; have := S18.out; have := S19.out; have := S20.out; have := S21.out; have := S22.out; have := S23.out; have := S24.out; have := S25.out; have := S26.out; have := QX.out; omega))
  replace RG := Lib.hid (Row.chg RG.out hch (by have := S1.out; have := S2.out; have := S3.out; have := S4.out; have := S5.out; have := S6.out; have := S7.out; have := S8.out; have := S9.out; have := S10.out; have := S11.out; have := S12.out; have := S13.out; have := S14.out; have := S15.out; have := S16.out; have := S17.out; have := S18.out; have := S19.out; have := S20.out; have := S21.out; have := S22.out; have := S23.out; have := S24.out; have := S25.out; have := S26.out; have := QG.out; omega))
  replace OW := Lib.hid (OwnM.chg OW.out hch (by have := S1.out; have := S2.out; have := S3.out; have := S4.out; have := S5.out; have := S6.out; have := S7.out; have := S8.out; have := S9.out; have := S10.out; have := S11.out; have := S12.out; have := S13.out; have := S14.out; have := S15.out; have := S16.out; have := S17.out; have := S18.out; have := S19.out; have := S20.out; have := S21.out; have := S22.out; have := S23.out; have := S24.out; have := S25.out; have := S26.out; omega))
  replace OTW := Lib.hid (OwnI.chg OTW.out hch (by have := S1.out; have := S2.out; have := S3.out; have := S4.out; have := S5.out; have := S6.out; have := S7.out; have := S8.out; have := S9.out; have := S10.out; have := S11.out; have := S12.out; have := S13.out; have := S14.out; have := S15.out; have := S16.out; have := S17.out; have := S18.out; have := S19.out; have := S20.out; have := S21.out; have := S22.out; have := S23.out; have := S24.out; have := S25.out; have := S26.out; omega))
  replace OG := Lib.hid (OwnM.chg OG.out hch (by have := S1.out; have := S2.out; have := S3.out; have := S4.out; have := S5.out; have := S6.out; have := S7.out; have := S8.out; have := S9.out; have := S10.out; have := S11.out; have := S12.out; have := S13.out; have := S14.out; have := S15.out; have := S16.out; have := S17.out; have := S18.out; have := S19.out; have := S20.out; have := S21.out; have := S22.out; have := S23.out; have := S24.out; have := S25.out; have := S26.out; omega))
  replace L := Lib.hid (below_chg L.out hch (by have := S1.out; have := S2.out; have := S3.out; have := S4.out; have := S5.out; have := S6.out; have := S7.out; have := S8.out; have := S9.out; have := S10.out; have := S11.out; have := S12.out; have := S13.out; have := S14.out; have := S15.out; have := S16.out; have := S17.out; have := S18.out; have := S19.out; have := S20.out; have := S21.out; have := S22.out; have := S23.out; have := S24.out; have := S25.out; have := S26.out; have := Qx.out; omega) L.out.size)
  have S27 : Hid (wm3.heap.size ≤ wm4.heap.size) := hch.size
  clear hch Qx QW QX QG
  replace OTG := Lib.hid ho
  clear ho
  have c0x := Row.cell Rx.out 0
  have c1x := Row.cell Rx.out 1
  have c2x := Row.cell Rx.out 2
  have ltx := Row.lt Rx.out
  have c0W := Row.cell RW.out 0
  have c1W := Row.cell RW.out 1
  have c2W := Row.cell RW.out 2
  have c3W := Row.cell RW.out 3
  have ltW := Row.lt RW.out
  have c0X := Row.cell RX.out 0
  have c1X := Row.cell RX.out 1
  have c2X := Row.cell RX.out 2
  have ltX := Row.lt RX.out
  have c0G := Row.cell RG.out 0
  have c1G := Row.cell RG.out 1
  have c2G := Row.cell RG.out 2
  have c3G := Row.cell RG.out 3
  have ltG := Row.lt RG.out
  go_wp2_with fail
  clear c0x c1x c2x ltx c0W c1W c2W c3W ltW c0X c1X c2X ltX c0G c1G c2G c3G ltG
  refine (c_heldMarking (.slice paG gf qaG) (.slice pbG gl qbG) (.slice pcG gr qcG) (.slice pdG gc qdG) gh gc 1 _ OG.out.heap (by rw [HSMg.out]; exact OG.out.cols) (by omega) (by rw [HSMg.out]; have h9 := HB9.out; omega) (by rw [HNgf.out]; have h9 := HB9.out; omega)).mono ?_
  rintro e wh1 ⟨rfl, hb⟩
  rw [HSMg.out]
  replace Rx := Lib.hid (Row.below Rx.out hb)
  replace RW := Lib.hid (Row.below RW.out hb)
  replace RX := Lib.hid (Row.below RX.out hb)
  replace RG := Lib.hid (Row.below RG.out hb)
  replace OW := Lib.hid (OwnM.below OW.out hb)
  replace OTW := Lib.hid (OwnI.below OTW.out hb)
  replace OG := Lib.hid (OwnM.below OG.out hb)
  replace OTG := Lib.hid (OwnI.below OTG.out hb)
  have S28 : Hid (wm4.heap.size ≤ wh1.heap.size) := hb.size
  replace L := Lib.hid (bst L.out hb L.out.size)
  clear hb
  have c0x := Row.cell Rx.out 0
  have c1x := Row.cell Rx.out 1
  have c2x := Row.cell Rx.out 2
  have ltx := Row.lt Rx.out
  have c0W := Row.cell RW.out 0
  have c1W := Row.cell RW.out 1
  have c2W := Row.cell RW.out 2
  have c3W := Row.cell RW.out 3
  have ltW := Row.lt RW.out
  have c0X := Row.cell RX.out 0
  have c1X := Row.cell RX.out 1
  have c2X := Row.cell RX.out 2
  have ltX := Row.lt RX.out
  have c0G := Row.cell RG.out 0
  have c1G := Row.cell RG.out 1
  have c2G := Row.cell RG.out 2
  have c3G := Row.cell RG.out 3
  have ltG := Row.lt RG.out
  go_wp2_with fail
  clear c0x c1x c2x ltx c0W c1W c2W c3W ltW c0X c1X c2X ltX c0G c1G c2G c3G ltG
  refine (c_heldBoolS (.slice ptG gb qtG) gb (1 + (szg : Int) + (gc : Int)) _ OTG.out.reads (by omega) (by have h9 := HB9.out; omega)).mono ?_
  rintro e wh2 ⟨rfl, hw⟩
  subst hw
  have c0x := Row.cell Rx.out 0
  have c1x := Row.cell Rx.out 1
  have c2x := Row.cell Rx.out 2
  have ltx := Row.lt Rx.out
  have c0W := Row.cell RW.out 0
  have c1W := Row.cell RW.out 1
  have c2W := Row.cell RW.out 2
  have c3W := Row.cell RW.out 3
  have ltW := Row.lt RW.out
  have c0X := Row.cell RX.out 0
  have c1X := Row.cell RX.out 1
  have c2X := Row.cell RX.out 2
  have ltX := Row.lt RX.out
  have c0G := Row.cell RG.out 0
  have c1G := Row.cell RG.out 1
  have c2G := Row.cell RG.out 2
  have c3G := Row.cell RG.out 3
  have ltG := Row.lt RG.out
  go_wp2_with fail
  clear c0x c1x c2x ltx c0W c1W c2W c3W ltW c0X c1X c2X ltX c0G c1G c2G c3G ltG
  refine (c_toHeap (.slice paA nf qaA) (.slice pbA nl qbA) (.slice pcA nr qcA) hx _ (HZ.out.below L.out) HM.out).mono ?_
  rintro e w3 ⟨a1, b1, c1, rfl, ho, hb⟩
  have hsh := ho.shapes
  simp only [HNnf.out, HNnl.out, HNnr.out] at hsh
  obtain ⟨⟨pat, qat, rfl⟩, ⟨pbt, qbt, rfl⟩, ⟨pct, qct, rfl⟩⟩ := hsh
  have Ot : Hid (OwnH w3 wh1.heap.size w3.heap.size (.slice pat nf qat) (.slice pbt nl qbt) (.slice pct nr qct) hx) := ho
  clear ho
  replace Rx := Lib.hid (Row.below Rx.out hb)
  replace RW := Lib.hid (Row.below RW.out hb)
  replace RX := Lib.hid (Row.below RX.out hb)
  replace RG := Lib.hid (Row.below RG.out hb)
  replace OW := Lib.hid (OwnM.below OW.out hb)
  replace OTW := Lib.hid (OwnI.below OTW.out hb)
  replace OG := Lib.hid (OwnM.below OG.out hb)
  replace OTG := Lib.hid (OwnI.below OTG.out hb)
  have S29 : Hid (wh1.heap.size ≤ w3.heap.size) := hb.size
  replace L := Lib.hid (bst L.out hb L.out.size)
  clear hb
  have c0x := Row.cell Rx.out 0
  have c1x := Row.cell Rx.out 1
  have c2x := Row.cell Rx.out 2
  have ltx := Row.lt Rx.out
  have c0W := Row.cell RW.out 0
  have c1W := Row.cell RW.out 1
  have c2W := Row.cell RW.out 2
  have c3W := Row.cell RW.out 3
  have ltW := Row.lt RW.out
  have c0X := Row.cell RX.out 0
  have c1X := Row.cell RX.out 1
  have c2X := Row.cell RX.out 2
  have ltX := Row.lt RX.out
  have c0G := Row.cell RG.out 0
  have c1G := Row.cell RG.out 1
  have c2G := Row.cell RG.out 2
  have c3G := Row.cell RG.out 3
  have ltG := Row.lt RG.out
  go_wp2_with fail
  clear c0x c1x c2x ltx c0W c1W c2W c3W ltW c0X c1X c2X ltX c0G c1G c2G c3G ltG
  refine (c_toVI (.slice pmA nm qmA) (HMV.out.below L.out) HMnm.out).mono ?_
  rintro e w4 ⟨v1, rfl, ho, hb⟩
  obtain ⟨pmtv, qmtv, hsh⟩ := ho.1.shape
  rw [HNnm.out] at hsh
  subst hsh
  have Otv : Hid (OwnVI w4 w3.heap.size w4.heap.size (.slice pmtv nm qmtv) ms) := ho
  clear ho
  replace Rx := Lib.hid (Row.below Rx.out hb)
  replace RW := Lib.hid (Row.below RW.out hb)
  replace RX := Lib.hid (Row.below RX.out hb)
  replace RG := Lib.hid (Row.below RG.out hb)
  replace OW := Lib.hid (OwnM.below OW.out hb)
  replace OTW := Lib.hid (OwnI.below OTW.out hb)
  replace OG := Lib.hid (OwnM.below OG.out hb)
  replace OTG := Lib.hid (OwnI.below OTG.out hb)
  replace Ot := Lib.hid (OwnH.below Ot.out hb)
  have S30 : Hid (w3.heap.size ≤ w4.heap.size) := hb.size
  replace L := Lib.hid (bst L.out hb L.out.size)
  clear hb
  have c0x := Row.cell Rx.out 0
  have c1x := Row.cell Rx.out 1
  have c2x := Row.cell Rx.out 2
  have ltx := Row.lt Rx.out
  have c0W := Row.cell RW.out 0
  have c1W := Row.cell RW.out 1
  have c2W := Row.cell RW.out 2
  have c3W := Row.cell RW.out 3
  have ltW := Row.lt RW.out
  have c0X := Row.cell RX.out 0
  have c1X := Row.cell RX.out 1
  have c2X := Row.cell RX.out 2
  have ltX := Row.lt RX.out
  have c0G := Row.cell RG.out 0
  have c1G := Row.cell RG.out 1
  have c2G := Row.cell RG.out 2
  have c3G := Row.cell RG.out 3
  have ltG := Row.lt RG.out
  go_wp2_with fail
  clear c0x c1x c2x ltx c0W c1W c2W c3W ltW c0X c1X c2X ltX c0G c1G c2G c3G ltG
  refine (HI.out _ (.slice pat nf qat) (.slice pbt nl qbt) (.slice pct nr qct) (.slice pmtv nm qmtv) Ot.out.reads Otv.out.reads).mono ?_
  intro e wH hend
  obtain ⟨a1, b1, c1, d1, t1, loH, hiH, blH, bhH, rfl, ho, hd, hl, hb⟩ := endMM_span hend
  clear hend
  have hsh := ho.shapes
  simp only [HNgf.out, HNgl.out, HNgr.out, HNgc.out] at hsh
  obtain ⟨⟨paH, qaH, rfl⟩, ⟨pbH, qbH, rfl⟩, ⟨pcH, qcH, rfl⟩, ⟨pdH, qdH, rfl⟩⟩ := hsh
  obtain ⟨ptH, qtH, hsh⟩ := hd.reads.shape
  rw [HNgb.out] at hsh
  subst hsh
  have S31 : Hid (w4.heap.size ≤ loH ∧ loH ≤ hiH ∧ hiH ≤ wH.heap.size ∧ w4.heap.size ≤ blH ∧ blH ≤ bhH ∧ bhH ≤ wH.heap.size ∧ (bhH ≤ loH ∨ hiH ≤ blH)) := hl
  clear hl
  have OH : Hid (OwnM wH loH hiH (.slice paH gf qaH) (.slice pbH gl qbH) (.slice pcH gr qcH) (.slice pdH gc qdH) gh gz) := ho
  have OTH : Hid (OwnI wH blH bhH (.slice ptH gb qtH) gd) := hd
  clear ho hd
  replace Rx := Lib.hid (Row.below Rx.out hb)
  replace RW := Lib.hid (Row.below RW.out hb)
  replace RX := Lib.hid (Row.below RX.out hb)
  replace RG := Lib.hid (Row.below RG.out hb)
  replace OW := Lib.hid (OwnM.below OW.out hb)
  replace OTW := Lib.hid (OwnI.below OTW.out hb)
  replace OG := Lib.hid (OwnM.below OG.out hb)
  replace OTG := Lib.hid (OwnI.below OTG.out hb)
  replace Ot := Lib.hid (OwnH.below Ot.out hb)
  replace Otv := Lib.hid (OwnVI.below Otv.out hb)
  have S32 : Hid (w4.heap.size ≤ wH.heap.size) := hb.size
  replace L := Lib.hid (bst L.out hb L.out.size)
  clear hb
  clear Ot
  clear Otv
  have c0x := Row.cell Rx.out 0
  have c1x := Row.cell Rx.out 1
  have c2x := Row.cell Rx.out 2
  have ltx := Row.lt Rx.out
  have c0W := Row.cell RW.out 0
  have c1W := Row.cell RW.out 1
  have c2W := Row.cell RW.out 2
  have c3W := Row.cell RW.out 3
  have ltW := Row.lt RW.out
  have c0X := Row.cell RX.out 0
  have c1X := Row.cell RX.out 1
  have c2X := Row.cell RX.out 2
  have ltX := Row.lt RX.out
  have c0G := Row.cell RG.out 0
  have c1G := Row.cell RG.out 1
  have c2G := Row.cell RG.out 2
  have c3G := Row.cell RG.out 3
  have ltG := Row.lt RG.out
  go_wp2_with fail
  clear c0x c1x c2x ltx c0W c1W c2W c3W ltW c0X c1X c2X ltX c0G c1G c2G c3G ltG
  have hb := below1 wH (.cells (m4 (.slice paH gf qaH) (.slice pbH gl qbH) (.slice pcH gr qcH) (.slice pdH gc qdH)) 34)
  have RN : Hid (Row (wH.alloc (.cells (m4 (.slice paH gf qaH) (.slice pbH gl qbH) (.slice pcH gr qcH) (.slice pdH gc qdH)) 34)) wH.heap.size 34 (m4 (.slice paH gf qaH) (.slice pbH gl qbH) (.slice pcH gr qcH) (.slice pdH gc qdH))) := Row.new wH _ _
  have S33 : Hid (wH.heap.size < (wH.alloc (.cells (m4 (.slice paH gf qaH) (.slice pbH gl qbH) (.slice pcH gr qcH) (.slice pdH gc qdH)) 34)).heap.size) := (by unfold Hid; simp)
  replace Rx := Lib.hid (Row.below Rx.out hb)
  replace RW := Lib.hid (Row.below RW.out hb)
  replace RX := Lib.hid (Row.below RX.out hb)
  replace RG := Lib.hid (Row.below RG.out hb)
  replace OW := Lib.hid (OwnM.below OW.out hb)
  replace OTW := Lib.hid (OwnI.below OTW.out hb)
  replace OG := Lib.hid (OwnM.below OG.out hb)
  replace OTG := Lib.hid (OwnI.below OTG.out hb)
  replace OH := Lib.hid (OwnM.below OH.out hb)
  replace OTH := Lib.hid (OwnI.below OTH.out hb)
  have S34 : Hid (wH.heap.size ≤ (wH.alloc (.cells (m4 (.slice paH gf qaH) (.slice pbH gl qbH) (.slice pcH gr qcH) (.slice pdH gc qdH)) 34)).heap.size) := hb.size
  replace L := Lib.hid (bst L.out hb L.out.size)
  clear hb
  have RH := RN
  clear RN
  refine (c_eqMarking (.slice paH gf qaH) (.slice pbH gl qbH) (.slice pcH gr qcH) (.slice pdH gc qdH) (.slice paW gf qaW) (.slice pbW gl qbW) (.slice pcW gr qcW) (.slice pdW gc qdW) gh gz _ OH.out.heap OH.out.cols OW.out.heap OW.out.cols HRZ.out.2.2.1 (by rw [HNgc.out]; exact HRZ.out.2.2.2.1)).mono ?_
  rintro e wg1 ⟨rfl, hb⟩
  replace Rx := Lib.hid (Row.below Rx.out hb)
  replace RW := Lib.hid (Row.below RW.out hb)
  replace RX := Lib.hid (Row.below RX.out hb)
  replace RG := Lib.hid (Row.below RG.out hb)
  replace RH := Lib.hid (Row.below RH.out hb)
  replace OW := Lib.hid (OwnM.below OW.out hb)
  replace OTW := Lib.hid (OwnI.below OTW.out hb)
  replace OG := Lib.hid (OwnM.below OG.out hb)
  replace OTG := Lib.hid (OwnI.below OTG.out hb)
  replace OH := Lib.hid (OwnM.below OH.out hb)
  replace OTH := Lib.hid (OwnI.below OTH.out hb)
  have S35 : Hid ((wH.alloc (.cells (m4 (.slice paH gf qaH) (.slice pbH gl qbH) (.slice pcH gr qcH) (.slice pdH gc qdH)) 34)).heap.size ≤ wg1.heap.size) := hb.size
  replace L := Lib.hid (bst L.out hb L.out.size)
  clear hb
  have c0x := Row.cell Rx.out 0
  have c1x := Row.cell Rx.out 1
  have c2x := Row.cell Rx.out 2
  have ltx := Row.lt Rx.out
  have c0W := Row.cell RW.out 0
  have c1W := Row.cell RW.out 1
  have c2W := Row.cell RW.out 2
  have c3W := Row.cell RW.out 3
  have ltW := Row.lt RW.out
  have c0X := Row.cell RX.out 0
  have c1X := Row.cell RX.out 1
  have c2X := Row.cell RX.out 2
  have ltX := Row.lt RX.out
  have c0G := Row.cell RG.out 0
  have c1G := Row.cell RG.out 1
  have c2G := Row.cell RG.out 2
  have c3G := Row.cell RG.out 3
  have ltG := Row.lt RG.out
  have c0H := Row.cell RH.out 0
  have c1H := Row.cell RH.out 1
  have c2H := Row.cell RH.out 2
  have c3H := Row.cell RH.out 3
  have ltH := Row.lt RH.out
  go_wp2_with fail
  clear c0x c1x c2x ltx c0W c1W c2W c3W ltW c0X c1X c2X ltX c0G c1G c2G c3G ltG c0H c1H c2H c3H ltH
  refine (c_eqBoolS (.slice ptH gb qtH) (.slice ptW gb qtW) gd _ OTH.out.reads OTW.out.reads (by rw [HNgb.out]; have := HRZ.out.2.2.2.2; omega)).mono ?_
  rintro e wg2 ⟨rfl, nd, hnd⟩
  have hb : Below wg1.heap.size wg1 wg2 := by rw [hnd]; exact below_drewN (Below.refl _ _) nd
  clear hnd nd
  replace Rx := Lib.hid (Row.below Rx.out hb)
  replace RW := Lib.hid (Row.below RW.out hb)
  replace RX := Lib.hid (Row.below RX.out hb)
  replace RG := Lib.hid (Row.below RG.out hb)
  replace RH := Lib.hid (Row.below RH.out hb)
  replace OW := Lib.hid (OwnM.below OW.out hb)
  replace OTW := Lib.hid (OwnI.below OTW.out hb)
  replace OG := Lib.hid (OwnM.below OG.out hb)
  replace OTG := Lib.hid (OwnI.below OTG.out hb)
  replace OH := Lib.hid (OwnM.below OH.out hb)
  replace OTH := Lib.hid (OwnI.below OTH.out hb)
  have S36 : Hid (wg1.heap.size ≤ wg2.heap.size) := hb.size
  replace L := Lib.hid (bst L.out hb L.out.size)
  clear hb
  have c0x := Row.cell Rx.out 0
  have c1x := Row.cell Rx.out 1
  have c2x := Row.cell Rx.out 2
  have ltx := Row.lt Rx.out
  have c0W := Row.cell RW.out 0
  have c1W := Row.cell RW.out 1
  have c2W := Row.cell RW.out 2
  have c3W := Row.cell RW.out 3
  have ltW := Row.lt RW.out
  have c0X := Row.cell RX.out 0
  have c1X := Row.cell RX.out 1
  have c2X := Row.cell RX.out 2
  have ltX := Row.lt RX.out
  have c0G := Row.cell RG.out 0
  have c1G := Row.cell RG.out 1
  have c2G := Row.cell RG.out 2
  have c3G := Row.cell RG.out 3
  have ltG := Row.lt RG.out
  have c0H := Row.cell RH.out 0
  have c1H := Row.cell RH.out 1
  have c2H := Row.cell RH.out 2
  have c3H := Row.cell RH.out 3
  have ltH := Row.lt RH.out
  go_wp2_with fail
  clear c0x c1x c2x ltx c0W c1W c2W c3W ltW c0X c1X c2X ltX c0G c1G c2G c3G ltG c0H c1H c2H c3H ltH
  refine (c_heldMarking (.slice paG gf qaG) (.slice pbG gl qbG) (.slice pcG gr qcG) (.slice pdG gc qdG) gh gc 1 _ OG.out.heap (by rw [HSMg.out]; exact OG.out.cols) (by omega) (by rw [HSMg.out]; have h9 := HB9.out; omega) (by rw [HNgf.out]; have h9 := HB9.out; omega)).mono ?_
  rintro e wi1 ⟨rfl, hb⟩
  rw [HSMg.out]
  replace Rx := Lib.hid (Row.below Rx.out hb)
  replace RW := Lib.hid (Row.below RW.out hb)
  replace RX := Lib.hid (Row.below RX.out hb)
  replace RG := Lib.hid (Row.below RG.out hb)
  replace RH := Lib.hid (Row.below RH.out hb)
  replace OW := Lib.hid (OwnM.below OW.out hb)
  replace OTW := Lib.hid (OwnI.below OTW.out hb)
  replace OG := Lib.hid (OwnM.below OG.out hb)
  replace OTG := Lib.hid (OwnI.below OTG.out hb)
  replace OH := Lib.hid (OwnM.below OH.out hb)
  replace OTH := Lib.hid (OwnI.below OTH.out hb)
  have S37 : Hid (wg2.heap.size ≤ wi1.heap.size) := hb.size
  replace L := Lib.hid (bst L.out hb L.out.size)
  clear hb
  have c0x := Row.cell Rx.out 0
  have c1x := Row.cell Rx.out 1
  have c2x := Row.cell Rx.out 2
  have ltx := Row.lt Rx.out
  have c0W := Row.cell RW.out 0
  have c1W := Row.cell RW.out 1
  have c2W := Row.cell RW.out 2
  have c3W := Row.cell RW.out 3
  have ltW := Row.lt RW.out
  have c0X := Row.cell RX.out 0
  have c1X := Row.cell RX.out 1
  have c2X := Row.cell RX.out 2
  have ltX := Row.lt RX.out
  have c0G := Row.cell RG.out 0
  have c1G := Row.cell RG.out 1
  have c2G := Row.cell RG.out 2
  have c3G := Row.cell RG.out 3
  have ltG := Row.lt RG.out
  have c0H := Row.cell RH.out 0
  have c1H := Row.cell RH.out 1
  have c2H := Row.cell RH.out 2
  have c3H := Row.cell RH.out 3
  have ltH := Row.lt RH.out
  go_wp2_with fail
  clear c0x c1x c2x ltx c0W c1W c2W c3W ltW c0X c1X c2X ltX c0G c1G c2G c3G ltG c0H c1H c2H c3H ltH
  refine (c_heldBoolS (.slice ptG gb qtG) gb (1 + (szg : Int) + (gc : Int)) _ OTG.out.reads (by omega) (by have h9 := HB9.out; omega)).mono ?_
  rintro e wi2 ⟨rfl, hw⟩
  subst hw
  have c0x := Row.cell Rx.out 0
  have c1x := Row.cell Rx.out 1
  have c2x := Row.cell Rx.out 2
  have ltx := Row.lt Rx.out
  have c0W := Row.cell RW.out 0
  have c1W := Row.cell RW.out 1
  have c2W := Row.cell RW.out 2
  have c3W := Row.cell RW.out 3
  have ltW := Row.lt RW.out
  have c0X := Row.cell RX.out 0
  have c1X := Row.cell RX.out 1
  have c2X := Row.cell RX.out 2
  have ltX := Row.lt RX.out
  have c0G := Row.cell RG.out 0
  have c1G := Row.cell RG.out 1
  have c2G := Row.cell RG.out 2
  have c3G := Row.cell RG.out 3
  have ltG := Row.lt RG.out
  have c0H := Row.cell RH.out 0
  have c1H := Row.cell RH.out 1
  have c2H := Row.cell RH.out 2
  have c3H := Row.cell RH.out 3
  have ltH := Row.lt RH.out
  go_wp2_with fail
  clear c0x c1x c2x ltx c0W c1W c2W c3W ltW c0X c1X c2X ltX c0G c1G c2G c3G ltG c0H c1H c2H c3H ltH
  go_ret
  exact ⟨rfl, L.out⟩
theorem c_PlayMarking (a b c v : Value) (h : H) (ms : List Mv) (put : Bool) (w : World) (hA : HeapAt w a b c h) (hM : MovesAt w v ms) : Calls Try.prog 30 #[hv a b c, v, .bool put] w (EndMM (playH h ms put) (playC h ms put) (playD h ms put) (playOk h ms) w) := by
  cases put
  · exact c_PlayMarking_false a b c v h ms w hA hM
  · exact c_PlayMarking_true a b c v h ms w hA hM
set_option maxHeartbeats 1600000 in
set_option maxRecDepth 100000 in
theorem walk_FnExactPlayMarking (ax bx cx : Value) (hx : H) (v : Value) (ms : List Mv) (put : Bool) (w : World) (hzx : HeapAt w ax bx cx hx) (hmv : MovesAt w v ms) (hfx : FitH hx) (hnx : ms.length ≤ 9223372036854775807) : Calls Try.prog 5 #[hv ax bx cx, v, .bool put] w fun e w' => e = .returned (.bool true) ∧ Below w.heap.size w w' := by
  by_cases hm : wtH hx + ms.length ≤ 1048576
  · exact core_FnExactPlayMarking ax bx cx v hx ms put (playH hx ms put) (playC hx ms put) (playD hx ms put) (playOk hx ms) w hzx hmv hm (play_wt hx ms put) (fun w a b c v h k => s_PlayMarking a b c v hx ms put w h k (by omega)) (fun w a b c v h k => c_PlayMarking a b c v hx ms put w h k)
  · have HB0 := Lib.hid (below1 w (.cells (c3 ax bx cx) 26))
    have HA0 := Lib.hid (hzx.below HB0.out)
    have HF := Lib.hid hfx
    obtain ⟨pmA, qmA, rfl⟩ := hmv.shape
    clear hmv hzx hfx
    by_cases h1 : wtH hx ≤ 1048576
    · have HC := Lib.hid (c_szHeap_yes _ _ _ hx 1048576 _ HA0.out (by omega) (by omega))
      generalize ms.length = nm at *
      generalize wtH hx = wt at *
      have hl0 : ¬ ((1048576 : Int) - (wt : Int)) < 0 := by omega
      obtain ⟨paA, qaA, rfl⟩ := HA0.out.f.shape
      obtain ⟨pbA, qbA, rfl⟩ := HA0.out.l.shape
      obtain ⟨pcA, qcA, rfl⟩ := HA0.out.r.shape
      generalize hx.f.length = nf at *
      generalize hx.l.length = nl at *
      generalize hx.r.length = nr at *
      clear HA0 HF
      go_enter Try.func5, Try.ntmps5
      go_wp2_with fail
      refine HC.out.mono ?_
      rintro e w1 ⟨rfl, hb1⟩
      have HB1 := Lib.hid (bst HB0.out hb1 HB0.out.size)
      clear hb1 HC
      go_wp2_with fail
      refine (c_szMoveS_no pmA nm qmA (1048576 - (wt : Int)) _ (by omega) (by omega) (by omega) (by omega)).mono ?_
      rintro e w2 ⟨rfl, hw⟩
      subst hw
      go_wp2
      go_ret
      exact ⟨rfl, HB1.out⟩
    · have HC := Lib.hid (c_szHeap_no _ _ _ hx 1048576 _ HA0.out HF.out (by omega) (by omega) (by omega))
      generalize ms.length = nm at *
      obtain ⟨paA, qaA, rfl⟩ := HA0.out.f.shape
      obtain ⟨pbA, qbA, rfl⟩ := HA0.out.l.shape
      obtain ⟨pcA, qcA, rfl⟩ := HA0.out.r.shape
      generalize hx.f.length = nf at *
      generalize hx.l.length = nl at *
      generalize hx.r.length = nr at *
      clear HA0 HF hm h1 hnx
      go_enter Try.func5, Try.ntmps5
      go_wp2_with fail
      refine HC.out.mono ?_
      rintro e w1 ⟨rfl, hb1⟩
      have HB1 := Lib.hid (bst HB0.out hb1 HB0.out.size)
      clear hb1 HC
      go_wp2
      go_ret
      exact ⟨rfl, HB1.out⟩
end Go.Proofs.Ytbmfkgfmibpkjaa
namespace Go.Proofs.Ytbmfkgfmibpkjaa.xPlayMarking
open Go.ChangeShapes Go.WideShapes Go.ChangeAt Go.RowKit

set_option maxRecDepth 100000 in
theorem contract (H : Type) (enc : TypeId × Value → H) (W : World) (base : Nat) (args : Array Value) (ds gs : List (DataW H)) (before : List MemPlace)
    (hval : ∀ (j : Nat) t v, Try.f5.params[j]? = some t → args[j]? = some v → Value.okWide Try.prog W .any base t v)
    (hW : DataW.Whole enc Try.prog Try.f5.params.toList Rows.fnExactPlayMarkingSpec.vars false W args.toList ds gs before) :
    Calls Try.prog 5 args W fun e W' => ∃ v, e = .returned v ∧ Rows.fnExactPlayMarkingSpec.post enc Try.prog Try.f5 false true false false W args v W' := by
  have hW' := hW
  obtain ⟨p, q, hA0, hV, rfl, hfz, hnd⟩ := hW
  have hA : DataW.TrodAll enc Try.prog W 0 (fun _ => true) true Try.f5.params.toList args.toList ds p := hA0
  have hpar : ∀ t ∈ Try.f5.params.toList, Try.prog.readableRec t = true ∧ t < Try.prog.types.size := by
    rw [Try.params5]; intro t ht; simp at ht; rcases ht with rfl | rfl | rfl <;> first | exact r_heap | exact r_moves | exact r_bool
  rw [Try.params5] at hA hval
  obtain ⟨v0, vs0, d0, ds0, p0, q0, hargs, rfl, rfl, h0, r0⟩ := trodAll_cons hA
  obtain ⟨v1, vs1, d1, ds1, p1, q1, rfl, rfl, rfl, h1, r1⟩ := trodAll_cons r0
  obtain ⟨v2, vs2, d2, ds2, p2, q2, rfl, rfl, rfl, h2, r2⟩ := trodAll_cons r1
  obtain ⟨rfl, rfl, rfl⟩ := trodAll_nil r2
  obtain rfl : args = #[v0, v1, v2] := by cases args; simp_all
  obtain ⟨rfl, rfl⟩ := trodVars_none hV
  obtain ⟨fa0, fb0, fc0, z0, rfl, hz0, hn0⟩ := heap_of_arg (hval 0 26 v0 rfl rfl) h0
  obtain ⟨m1, hz1, hw1, hn1⟩ := moves_of_arg (hval 1 43 v1 rfl rfl) h1
  obtain ⟨a2, rfl, rfl, rfl⟩ := open_bool Try.underlying4 (hval 2 4 v2 rfl rfl) h2
  refine (walk_FnExactPlayMarking fa0 fb0 fc0 z0 v1 m1 a2 W hz0 hz1 hn0 hn1).mono fun e W' ⟨he, hb⟩ => ?_
  subst he
  exact ⟨_, rfl, law_post laidOut hpar (fun n hn => by cases hn) hW' hb rfl (by kernel_rfl) Try.underlying4⟩

set_option maxRecDepth 100000 in
theorem lifted (os : Os) (started : os.Started) (H : Type) (enc : TypeId × Value → H) :
    ReturnsInHanded {} Try.checked os 5 .any (Rows.fnExactPlayMarkingSpec.pre6 enc Try.prog Try.f5 Rows.fnExactPlayMarkingRow.domain false) (Rows.fnExactPlayMarkingSpec.post enc Try.prog Try.f5 false true false false) := by
  refine returnsInHanded_of_change (C := Try.checked) own started (by kernel_rfl) Try.func5
    (ChangeSpec.witness6 (enc := enc) (C := Try.checked) false ⟨#[], #[.agg #[.slice none 0 0, .slice none 0 0, .slice none 0 0], .slice none 0 0, .bool false], []⟩ 8 (by kernel_rfl) (by kernel_rfl) (by kernel_rfl) (by kernel_rfl)) ?_
  intro W base args ds gs before hval hW _ _
  exact contract H enc W base args ds gs before hval hW
end Go.Proofs.Ytbmfkgfmibpkjaa.xPlayMarking
namespace Go.Proofs.Ytbmfkgfmibpkjaa
theorem xPlayMarking_said : Rows.FnExactPlayMarkingSaid :=
  OpenClaim.holds_of_wide 5 Try.f5 rfl rfl rfl rfl rfl rfl rfl ⟨rfl, rfl, rfl, rfl, rfl⟩ rfl rfl rfl rfl rfl (by kernel_rfl) Try.func5 (by kernel_rfl)
    (of_decide_eq_true (by kernel_rfl)) (by unfold Func.isWrapper; first | (rw [if_pos (by decide +kernel)]; kernel_rfl) | (rw [if_neg (by decide +kernel)]; exact ⟨rfl, rfl⟩))
    (fun os started H enc _ => xPlayMarking.lifted os started H enc)
end Go.Proofs.Ytbmfkgfmibpkjaa
