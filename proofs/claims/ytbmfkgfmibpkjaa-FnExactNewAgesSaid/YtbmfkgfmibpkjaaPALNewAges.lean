/- laws.FnExactNewAges: for every input the law answers true, and the input reads as it did. No condition. -/
import Derived.Test.YtbmfkgfmibpkjaaPA5
namespace Go.Proofs.Ytbmfkgfmibpkjaa
open Go.RowKit Ph

set_option maxHeartbeats 12800000 in
set_option maxRecDepth 100000 in
theorem core_FnExactNewAges (ax bx cx : Value) (hx : H) (gh : H) (gs : List Bool) (gz : List Int) (ok : Bool) (w : World) (hzx : HeapAt w ax bx cx hx) (hm : wtH hx ≤ 1048576) (hrs : wtH gh + gs.length + gz.length ≤ 2000)
    (hS : ∀ (w : World) (ax bx cx : Value), HeapAt w ax bx cx hx → Calls Try.prog 38 #[hv ax bx cx] w (EndA gh gs gz ok w))
    (hI : ∀ (w : World) (ax bx cx : Value), HeapAt w ax bx cx hx → Calls Try.prog 39 #[hv ax bx cx] w (EndA gh gs gz ok w)) :
    Calls Try.prog 6 #[hv ax bx cx] w fun e w' => e = .returned (.bool true) ∧ Below w.heap.size w w' := by
  have HZ := Lib.hid hzx
  have HS := Lib.hid hS; have HI := Lib.hid hI
  clear hS hI
  obtain ⟨paA, qaA, rfl⟩ := hzx.f.shape
  obtain ⟨pbA, qbA, rfl⟩ := hzx.l.shape
  obtain ⟨pcA, qcA, rfl⟩ := hzx.r.shape
  clear hzx
  have HSZ : Hid (szM hx ≤ 1048576 ∧ hx.f.length ≤ 1048576) := by unfold Hid szM; have := hm; unfold wtH wt at this; omega
  have HRZ : Hid (szM gh ≤ 2000 ∧ gh.f.length ≤ 1048576 ∧ wtH gh ≤ 1048576 ∧ gz.length ≤ 1048576 ∧ gs.length ≤ 1048576) := by
    have h1 : szM gh ≤ 2000 ∧ gh.f.length ≤ 1048576 := by unfold szM; have := hrs; unfold wtH wt at this; omega
    exact ⟨h1.1, h1.2, by omega, by omega, by omega⟩
  clear hrs
  generalize hwt : wtH hx = wt at *
  have HWT := Lib.hid hwt; clear hwt
  generalize hnnf : hx.f.length = nf at *
  have HNnf := Lib.hid hnnf; clear hnnf
  generalize hnnl : hx.l.length = nl at *
  have HNnl := Lib.hid hnnl; clear hnnl
  generalize hnnr : hx.r.length = nr at *
  have HNnr := Lib.hid hnnr; clear hnnr
  generalize hngf : gh.f.length = gf at *
  have HNgf := Lib.hid hngf; clear hngf
  generalize hngl : gh.l.length = gl at *
  have HNgl := Lib.hid hngl; clear hngl
  generalize hngr : gh.r.length = gr at *
  have HNgr := Lib.hid hngr; clear hngr
  generalize hngo : gs.length = go at *
  have HNgo := Lib.hid hngo; clear hngo
  generalize hngk : gz.length = gk at *
  have HNgk := Lib.hid hngk; clear hngk
  generalize hsz : szM hx = sz at *
  have HSM := Lib.hid hsz; clear hsz
  generalize hszg : szM gh = szg at *
  have HSMg := Lib.hid hszg; clear hszg
  have HM : Hid (wtH hx ≤ 1048576) := by unfold Hid; rw [HWT.out]; omega
  have hl0 : ¬ ((1048576 : Int) - (wt : Int)) < 0 := by omega
  have e1 : (ok != ok) = false := by simp
  have L := Lib.hid (below1 w (.cells (c3 (.slice paA nf qaA) (.slice pbA nl qbA) (.slice pcA nr qcA)) 26))
  have Rx : Hid (Row (w.alloc (.cells (c3 (.slice paA nf qaA) (.slice pbA nl qbA) (.slice pcA nr qcA)) 26)) w.heap.size 26 (c3 (.slice paA nf qaA) (.slice pbA nl qbA) (.slice pcA nr qcA))) := Row.new w _ _
  have S1 : Hid (w.heap.size + 1 ≤ (w.alloc (.cells (c3 (.slice paA nf qaA) (.slice pbA nl qbA) (.slice pcA nr qcA)) 26)).heap.size) := (by unfold Hid; simp)
  go_enter Try.func6, Try.ntmps6
  have ltx := Row.lt Rx.out
  have c0x := Row.cell Rx.out 0
  have c1x := Row.cell Rx.out 1
  have c2x := Row.cell Rx.out 2
  go_wp2_with fail
  clear c0x c1x c2x
  clear ltx
  refine (c_szHeap_yes (.slice paA nf qaA) (.slice pbA nl qbA) (.slice pcA nr qcA) hx 1048576 _ (HZ.out.below L.out) (by omega) (by rw [HWT.out]; omega)).mono ?_
  rintro e ws ⟨rfl, hb⟩
  rw [HWT.out]
  replace Rx := Lib.hid (Row.below Rx.out hb)
  have S2 : Hid ((w.alloc (.cells (c3 (.slice paA nf qaA) (.slice pbA nl qbA) (.slice pcA nr qcA)) 26)).heap.size ≤ ws.heap.size) := hb.size
  replace L := Lib.hid (bst L.out hb L.out.size)
  clear hb
  have ltx := Row.lt Rx.out
  have c0x := Row.cell Rx.out 0
  have c1x := Row.cell Rx.out 1
  have c2x := Row.cell Rx.out 2
  go_wp2_with fail
  clear c0x c1x c2x
  clear ltx
  refine (c_toHeap (.slice paA nf qaA) (.slice pbA nl qbA) (.slice pcA nr qcA) hx _ (HZ.out.below L.out) HM.out).mono ?_
  rintro e wq ⟨aQ, bQ, cQ, rfl, ho, hb⟩
  have hsh := ho.shapes
  simp only [HNnf.out, HNnl.out, HNnr.out] at hsh
  obtain ⟨⟨paQ, qaQ, rfl⟩, ⟨pbQ, qbQ, rfl⟩, ⟨pcQ, qcQ, rfl⟩⟩ := hsh
  have OQ : Hid (OwnH wq ws.heap.size wq.heap.size (.slice paQ nf qaQ) (.slice pbQ nl qbQ) (.slice pcQ nr qcQ) hx) := ho
  clear ho
  replace Rx := Lib.hid (Row.below Rx.out hb)
  have S3 : Hid (ws.heap.size ≤ wq.heap.size) := hb.size
  replace L := Lib.hid (bst L.out hb L.out.size)
  clear hb
  have ltx := Row.lt Rx.out
  have c0x := Row.cell Rx.out 0
  have c1x := Row.cell Rx.out 1
  have c2x := Row.cell Rx.out 2
  go_wp2_with fail
  clear c0x c1x c2x
  clear ltx
  refine (HS.out _ (.slice paQ nf qaQ) (.slice pbQ nl qbQ) (.slice pcQ nr qcQ) OQ.out.reads).mono ?_
  rintro e wW ⟨aW, bW, cW, oW, kW, rfl, ho, hb⟩
  have hsh := ho.shapes
  simp only [HNgf.out, HNgl.out, HNgr.out, HNgo.out, HNgk.out] at hsh
  obtain ⟨⟨paW, qaW, rfl⟩, ⟨pbW, qbW, rfl⟩, ⟨pcW, qcW, rfl⟩, ⟨poW, qoW, rfl⟩, ⟨pkW, qkW, rfl⟩⟩ := hsh
  have OW : Hid (OwnA wW wq.heap.size wW.heap.size (.slice paW gf qaW) (.slice pbW gl qbW) (.slice pcW gr qcW) (.slice poW go qoW) (.slice pkW gk qkW) gh gs gz) := ho
  clear ho
  replace Rx := Lib.hid (Row.below Rx.out hb)
  replace OQ := Lib.hid (OwnH.below OQ.out hb)
  have S4 : Hid (wq.heap.size ≤ wW.heap.size) := hb.size
  replace L := Lib.hid (bst L.out hb L.out.size)
  clear hb
  clear OQ
  have ltx := Row.lt Rx.out
  have c0x := Row.cell Rx.out 0
  have c1x := Row.cell Rx.out 1
  have c2x := Row.cell Rx.out 2
  go_wp2_with fail
  clear c0x c1x c2x
  clear ltx
  have hb := below1 wW (.cells (a5 (.slice paW gf qaW) (.slice pbW gl qbW) (.slice pcW gr qcW) (.slice poW go qoW) (.slice pkW gk qkW)) 59)
  have RN : Hid (Row (wW.alloc (.cells (a5 (.slice paW gf qaW) (.slice pbW gl qbW) (.slice pcW gr qcW) (.slice poW go qoW) (.slice pkW gk qkW)) 59)) wW.heap.size 59 (a5 (.slice paW gf qaW) (.slice pbW gl qbW) (.slice pcW gr qcW) (.slice poW go qoW) (.slice pkW gk qkW))) := Row.new wW _ _
  have S5 : Hid (wW.heap.size < (wW.alloc (.cells (a5 (.slice paW gf qaW) (.slice pbW gl qbW) (.slice pcW gr qcW) (.slice poW go qoW) (.slice pkW gk qkW)) 59)).heap.size) := (by unfold Hid; simp)
  replace Rx := Lib.hid (Row.below Rx.out hb)
  replace OW := Lib.hid (OwnA.below OW.out hb)
  have S6 : Hid (wW.heap.size ≤ (wW.alloc (.cells (a5 (.slice paW gf qaW) (.slice pbW gl qbW) (.slice pcW gr qcW) (.slice poW go qoW) (.slice pkW gk qkW)) 59)).heap.size) := hb.size
  replace L := Lib.hid (bst L.out hb L.out.size)
  clear hb
  have RW := RN
  clear RN
  refine (c_toHeap (.slice paA nf qaA) (.slice pbA nl qbA) (.slice pcA nr qcA) hx _ (HZ.out.below L.out) HM.out).mono ?_
  rintro e wX ⟨aX, bX, cX, rfl, ho, hb⟩
  have hsh := ho.shapes
  simp only [HNnf.out, HNnl.out, HNnr.out] at hsh
  obtain ⟨⟨paX, qaX, rfl⟩, ⟨pbX, qbX, rfl⟩, ⟨pcX, qcX, rfl⟩⟩ := hsh
  have OX : Hid (OwnH wX (wW.alloc (.cells (a5 (.slice paW gf qaW) (.slice pbW gl qbW) (.slice pcW gr qcW) (.slice poW go qoW) (.slice pkW gk qkW)) 59)).heap.size wX.heap.size (.slice paX nf qaX) (.slice pbX nl qbX) (.slice pcX nr qcX) hx) := ho
  clear ho
  replace Rx := Lib.hid (Row.below Rx.out hb)
  replace RW := Lib.hid (Row.below RW.out hb)
  replace OW := Lib.hid (OwnA.below OW.out hb)
  have S7 : Hid ((wW.alloc (.cells (a5 (.slice paW gf qaW) (.slice pbW gl qbW) (.slice pcW gr qcW) (.slice poW go qoW) (.slice pkW gk qkW)) 59)).heap.size ≤ wX.heap.size) := hb.size
  replace L := Lib.hid (bst L.out hb L.out.size)
  clear hb
  have ltx := Row.lt Rx.out
  have ltW := Row.lt RW.out
  have c0x := Row.cell Rx.out 0
  have c1x := Row.cell Rx.out 1
  have c2x := Row.cell Rx.out 2
  have c0W := Row.cell RW.out 0
  have c1W := Row.cell RW.out 1
  have c2W := Row.cell RW.out 2
  have c3W := Row.cell RW.out 3
  have c4W := Row.cell RW.out 4
  go_wp2_with fail
  clear c0x c1x c2x c0W c1W c2W c3W c4W
  clear ltx ltW
  have hb := below1 wX (.cells (c3 (.slice paX nf qaX) (.slice pbX nl qbX) (.slice pcX nr qcX)) 32)
  have RN : Hid (Row (wX.alloc (.cells (c3 (.slice paX nf qaX) (.slice pbX nl qbX) (.slice pcX nr qcX)) 32)) wX.heap.size 32 (c3 (.slice paX nf qaX) (.slice pbX nl qbX) (.slice pcX nr qcX))) := Row.new wX _ _
  have S8 : Hid (wX.heap.size < (wX.alloc (.cells (c3 (.slice paX nf qaX) (.slice pbX nl qbX) (.slice pcX nr qcX)) 32)).heap.size) := (by unfold Hid; simp)
  replace Rx := Lib.hid (Row.below Rx.out hb)
  replace RW := Lib.hid (Row.below RW.out hb)
  replace OW := Lib.hid (OwnA.below OW.out hb)
  replace OX := Lib.hid (OwnH.below OX.out hb)
  have S9 : Hid (wX.heap.size ≤ (wX.alloc (.cells (c3 (.slice paX nf qaX) (.slice pbX nl qbX) (.slice pcX nr qcX)) 32)).heap.size) := hb.size
  replace L := Lib.hid (bst L.out hb L.out.size)
  clear hb
  have RX := RN
  clear RN
  refine (HI.out _ (.slice paX nf qaX) (.slice pbX nl qbX) (.slice pcX nr qcX) OX.out.reads).mono ?_
  rintro e wG ⟨aG, bG, cG, oG, kG, rfl, ho, hb⟩
  have hsh := ho.shapes
  simp only [HNgf.out, HNgl.out, HNgr.out, HNgo.out, HNgk.out] at hsh
  obtain ⟨⟨paG, qaG, rfl⟩, ⟨pbG, qbG, rfl⟩, ⟨pcG, qcG, rfl⟩, ⟨poG, qoG, rfl⟩, ⟨pkG, qkG, rfl⟩⟩ := hsh
  have OG : Hid (OwnA wG (wX.alloc (.cells (c3 (.slice paX nf qaX) (.slice pbX nl qbX) (.slice pcX nr qcX)) 32)).heap.size wG.heap.size (.slice paG gf qaG) (.slice pbG gl qbG) (.slice pcG gr qcG) (.slice poG go qoG) (.slice pkG gk qkG) gh gs gz) := ho
  clear ho
  replace Rx := Lib.hid (Row.below Rx.out hb)
  replace RW := Lib.hid (Row.below RW.out hb)
  replace RX := Lib.hid (Row.below RX.out hb)
  replace OW := Lib.hid (OwnA.below OW.out hb)
  replace OX := Lib.hid (OwnH.below OX.out hb)
  have S10 : Hid ((wX.alloc (.cells (c3 (.slice paX nf qaX) (.slice pbX nl qbX) (.slice pcX nr qcX)) 32)).heap.size ≤ wG.heap.size) := hb.size
  replace L := Lib.hid (bst L.out hb L.out.size)
  clear hb
  have ltx := Row.lt Rx.out
  have ltW := Row.lt RW.out
  have ltX := Row.lt RX.out
  have c0x := Row.cell Rx.out 0
  have c1x := Row.cell Rx.out 1
  have c2x := Row.cell Rx.out 2
  have c0W := Row.cell RW.out 0
  have c1W := Row.cell RW.out 1
  have c2W := Row.cell RW.out 2
  have c3W := Row.cell RW.out 3
  have c4W := Row.cell RW.out 4
  have c0X := Row.cell RX.out 0
  have c1X := Row.cell RX.out 1
  have c2X := Row.cell RX.out 2
  go_wp2_with fail
  clear c0x c1x c2x c0W c1W c2W c3W c4W c0X c1X c2X
  clear ltx ltW ltX
  have hb := below1 wG (.cells (a5 (.slice paG gf qaG) (.slice pbG gl qbG) (.slice pcG gr qcG) (.slice poG go qoG) (.slice pkG gk qkG)) 59)
  have RN : Hid (Row (wG.alloc (.cells (a5 (.slice paG gf qaG) (.slice pbG gl qbG) (.slice pcG gr qcG) (.slice poG go qoG) (.slice pkG gk qkG)) 59)) wG.heap.size 59 (a5 (.slice paG gf qaG) (.slice pbG gl qbG) (.slice pcG gr qcG) (.slice poG go qoG) (.slice pkG gk qkG))) := Row.new wG _ _
  have S11 : Hid (wG.heap.size < (wG.alloc (.cells (a5 (.slice paG gf qaG) (.slice pbG gl qbG) (.slice pcG gr qcG) (.slice poG go qoG) (.slice pkG gk qkG)) 59)).heap.size) := (by unfold Hid; simp)
  replace Rx := Lib.hid (Row.below Rx.out hb)
  replace RW := Lib.hid (Row.below RW.out hb)
  replace RX := Lib.hid (Row.below RX.out hb)
  replace OW := Lib.hid (OwnA.below OW.out hb)
  replace OX := Lib.hid (OwnH.below OX.out hb)
  replace OG := Lib.hid (OwnA.below OG.out hb)
  have S12 : Hid (wG.heap.size ≤ (wG.alloc (.cells (a5 (.slice paG gf qaG) (.slice pbG gl qbG) (.slice pcG gr qcG) (.slice poG go qoG) (.slice pkG gk qkG)) 59)).heap.size) := hb.size
  replace L := Lib.hid (bst L.out hb L.out.size)
  clear hb
  have RG := RN
  clear RN
  refine (c_eqAges (.slice paG gf qaG) (.slice pbG gl qbG) (.slice pcG gr qcG) (.slice poG go qoG) (.slice pkG gk qkG) (.slice paW gf qaW) (.slice pbW gl qbW) (.slice pcW gr qcW) (.slice poW go qoW) (.slice pkW gk qkW) gh gs gz _ OG.out.heap OG.out.old OG.out.book OW.out.heap OW.out.old OW.out.book HRZ.out.2.2.1 (by rw [HNgo.out]; exact HRZ.out.2.2.2.2) (by rw [HNgk.out]; exact HRZ.out.2.2.2.1)).mono ?_
  rintro e w1e ⟨rfl, hb⟩
  replace Rx := Lib.hid (Row.below Rx.out hb)
  replace RW := Lib.hid (Row.below RW.out hb)
  replace RX := Lib.hid (Row.below RX.out hb)
  replace RG := Lib.hid (Row.below RG.out hb)
  replace OW := Lib.hid (OwnA.below OW.out hb)
  replace OX := Lib.hid (OwnH.below OX.out hb)
  replace OG := Lib.hid (OwnA.below OG.out hb)
  have S13 : Hid ((wG.alloc (.cells (a5 (.slice paG gf qaG) (.slice pbG gl qbG) (.slice pcG gr qcG) (.slice poG go qoG) (.slice pkG gk qkG)) 59)).heap.size ≤ w1e.heap.size) := hb.size
  replace L := Lib.hid (bst L.out hb L.out.size)
  clear hb
  have ltx := Row.lt Rx.out
  have ltW := Row.lt RW.out
  have ltX := Row.lt RX.out
  have ltG := Row.lt RG.out
  have c0x := Row.cell Rx.out 0
  have c1x := Row.cell Rx.out 1
  have c2x := Row.cell Rx.out 2
  have c0W := Row.cell RW.out 0
  have c1W := Row.cell RW.out 1
  have c2W := Row.cell RW.out 2
  have c3W := Row.cell RW.out 3
  have c4W := Row.cell RW.out 4
  have c0X := Row.cell RX.out 0
  have c1X := Row.cell RX.out 1
  have c2X := Row.cell RX.out 2
  have c0G := Row.cell RG.out 0
  have c1G := Row.cell RG.out 1
  have c2G := Row.cell RG.out 2
  have c3G := Row.cell RG.out 3
  have c4G := Row.cell RG.out 4
  go_wp2_with fail
  clear c0x c1x c2x c0W c1W c2W c3W c4W c0X c1X c2X c0G c1G c2G c3G c4G
  clear ltx ltW ltX ltG
  have RR0 : w1e.drew.cell? ⟨w.heap.size, 0, none⟩ = some (.slice paA nf qaA) := Row.cell Rx.out 0
  have RR1 : w1e.drew.cell? ⟨w.heap.size, 1, none⟩ = some (.slice pbA nl qbA) := Row.cell Rx.out 1
  have RR2 : w1e.drew.cell? ⟨w.heap.size, 2, none⟩ = some (.slice pcA nr qcA) := Row.cell Rx.out 2
  have RX0 : w1e.drew.cell? ⟨wX.heap.size, 0, none⟩ = some (.slice paX nf qaX) := Row.cell RX.out 0
  have RX1 : w1e.drew.cell? ⟨wX.heap.size, 1, none⟩ = some (.slice pbX nl qbX) := Row.cell RX.out 1
  have RX2 : w1e.drew.cell? ⟨wX.heap.size, 2, none⟩ = some (.slice pcX nr qcX) := Row.cell RX.out 2
  have BD := below_drew (Below.refl w1e.heap.size w1e)
  have IZ := Lib.hid (HeapAt.below HZ.out (below_drew L.out))
  have IX := Lib.hid (OX.out.reads.below BD)
  go_region_held3 (fun w' => w'.cell? ⟨w.heap.size, 0, none⟩ = some (.slice paA nf qaA) ∧ w'.cell? ⟨w.heap.size, 1, none⟩ = some (.slice pbA nl qbA) ∧ w'.cell? ⟨w.heap.size, 2, none⟩ = some (.slice pcA nr qcA) ∧ w'.cell? ⟨wX.heap.size, 0, none⟩ = some (.slice paX nf qaX) ∧ w'.cell? ⟨wX.heap.size, 1, none⟩ = some (.slice pbX nl qbX) ∧ w'.cell? ⟨wX.heap.size, 2, none⟩ = some (.slice pcX nr qcX) ∧ Below w1e.heap.size w1e w')
    (first
      | (with_reducible exact ⟨RR0, RR1, RR2, RX0, RX1, RX2, BD⟩)
      | (go_split_ands
         exact ⟨cellBelow hbk (Nat.le_refl _) (by assumption), cellBelow hbk (Nat.le_refl _) (by assumption), cellBelow hbk (Nat.le_refl _) (by assumption), cellBelow hbk (Nat.le_refl _) (by assumption), cellBelow hbk (Nat.le_refl _) (by assumption), cellBelow hbk (Nat.le_refl _) (by assumption), bst (by assumption) hbk (Below.size (by assumption))⟩)
      | (go_split_ands; refine ⟨?_, ?_, ?_, ?_, ?_, ?_, ?_⟩ <;> assumption))
    (first
      | (go_at_call 28; refine (c_toHeap (.slice paA nf qaA) (.slice pbA nl qbA) (.slice pcA nr qcA) hx _ IZ.out HM.out).mono ?_; rintro e wD1 ⟨aD, bD, cD, rfl, hoD, hbk⟩; have OD := Lib.hid hoD.reads; have XD := Lib.hid (IX.out.below hbk); clear hoD)
      | (go_at_call 32; refine (c_eqHeap _ _ _ _ _ _ hx _ XD.out OD.out HM.out).mono ?_; rintro e wD2 ⟨rfl, hbk⟩))
  have hb : Below w1e.heap.size w1e wD2 := by go_split_ands; assumption
  clear OD XD IZ IX RR0 RX0 RR1 RX1 RR2 RX2 BD
  replace Rx := Lib.hid (Row.below Rx.out hb)
  replace RW := Lib.hid (Row.below RW.out hb)
  replace RX := Lib.hid (Row.below RX.out hb)
  replace RG := Lib.hid (Row.below RG.out hb)
  replace OW := Lib.hid (OwnA.below OW.out hb)
  replace OX := Lib.hid (OwnH.below OX.out hb)
  replace OG := Lib.hid (OwnA.below OG.out hb)
  have S14 : Hid (w1e.heap.size ≤ wD2.heap.size) := hb.size
  replace L := Lib.hid (bst L.out hb L.out.size)
  clear hb
  have ltx := Row.lt Rx.out
  have ltW := Row.lt RW.out
  have ltX := Row.lt RX.out
  have ltG := Row.lt RG.out
  have c0x := Row.cell Rx.out 0
  have c1x := Row.cell Rx.out 1
  have c2x := Row.cell Rx.out 2
  have c0W := Row.cell RW.out 0
  have c1W := Row.cell RW.out 1
  have c2W := Row.cell RW.out 2
  have c3W := Row.cell RW.out 3
  have c4W := Row.cell RW.out 4
  have c0X := Row.cell RX.out 0
  have c1X := Row.cell RX.out 1
  have c2X := Row.cell RX.out 2
  have c0G := Row.cell RG.out 0
  have c1G := Row.cell RG.out 1
  have c2G := Row.cell RG.out 2
  have c3G := Row.cell RG.out 3
  have c4G := Row.cell RG.out 4
  go_wp2_with fail
  clear c0x c1x c2x c0W c1W c2W c3W c4W c0X c1X c2X c0G c1G c2G c3G c4G
  clear ltx ltW ltX ltG
  refine (c_markHeap (wW.alloc (.cells (a5 (.slice paW gf qaW) (.slice pbW gl qbW) (.slice pcW gr qcW) (.slice poW go qoW) (.slice pkW gk qkW)) 59)).heap.size wX.heap.size (.slice paX nf qaX) (.slice pbX nl qbX) (.slice pcX nr qcX) hx 1 _ OX.out (by omega) (by rw [HSM.out]; have := HSZ.out.1; omega) (by rw [HNnf.out]; have := HSZ.out.2; omega) (by have := S1.out; have := S2.out; have := S3.out; have := S4.out; have := S5.out; have := S6.out; have := S7.out; have := S8.out; have := S9.out; have := S10.out; have := S11.out; have := S12.out; have := S13.out; have := S14.out; omega)).mono ?_
  rintro e wmx ⟨rfl, ho, hch⟩
  rw [HSM.out]
  have Qx : Hid (w.heap.size < wD2.heap.size) := Row.lt Rx.out
  have QW : Hid (wW.heap.size < wD2.heap.size) := Row.lt RW.out
  have QX : Hid (wX.heap.size < wD2.heap.size) := Row.lt RX.out
  have QG : Hid (wG.heap.size < wD2.heap.size) := Row.lt RG.out
  replace Rx := Lib.hid (Row.chg Rx.out hch (by have := S1.out; have := S2.out; have := S3.out; have := S4.out; have := S5.out; have := S6.out; have := S7.out; have := S8.out; have := S9.out; have := S10.out; have := S11.out; have := S12.out; have := S13.out; have := S14.out; have := Qx.out; omega))
  replace RW := Lib.hid (Row.chg RW.out hch (by have := S1.out; have := S2.out; have := S3.out; have := S4.out; have := S5.out; have := S6.out; have := S7.out; have := S8.out; have := S9.out; have := S10.out; have := S11.out; have := S12.out; have := S13.out; have := S14.out; have := QW.out; omega))
  replace RX := Lib.hid (Row.chg RX.out hch (by have := S1.out; have := S2.out; have := S3.out; have := S4.out; have := S5.out; have := S6.out; have := S7.out; have := S8.out; have := S9.out; have := S10.out; have := S11.out; have := S12.out; have := S13.out; have := S14.out; have := QX.out; omega))
  replace RG := Lib.hid (Row.chg RG.out hch (by have := S1.out; have := S2.out; have := S3.out; have := S4.out; have := S5.out; have := S6.out; have := S7.out; have := S8.out; have := S9.out; have := S10.out; have := S11.out; have := S12.out; have := S13.out; have := S14.out; have := QG.out; omega))
  replace OW := Lib.hid (OwnA.chg OW.out hch (by have := S1.out; have := S2.out; have := S3.out; have := S4.out; have := S5.out; have := S6.out; have := S7.out; have := S8.out; have := S9.out; have := S10.out; have := S11.out; have := S12.out; have := S13.out; have := S14.out; omega))
  replace OG := Lib.hid (OwnA.chg OG.out hch (by have := S1.out; have := S2.out; have := S3.out; have := S4.out; have := S5.out; have := S6.out; have := S7.out; have := S8.out; have := S9.out; have := S10.out; have := S11.out; have := S12.out; have := S13.out; have := S14.out; omega))
  replace L := Lib.hid (below_chg L.out hch (by have := S1.out; have := S2.out; have := S3.out; have := S4.out; have := S5.out; have := S6.out; have := S7.out; have := S8.out; have := S9.out; have := S10.out; have := S11.out; have := S12.out; have := S13.out; have := S14.out; have := Qx.out; omega) L.out.size)
  have S15 : Hid (wD2.heap.size ≤ wmx.heap.size) := hch.size
  clear hch Qx QW QX QG
  clear OX ho
  have ltx := Row.lt Rx.out
  have ltW := Row.lt RW.out
  have ltX := Row.lt RX.out
  have ltG := Row.lt RG.out
  have c0x := Row.cell Rx.out 0
  have c1x := Row.cell Rx.out 1
  have c2x := Row.cell Rx.out 2
  have c0W := Row.cell RW.out 0
  have c1W := Row.cell RW.out 1
  have c2W := Row.cell RW.out 2
  have c3W := Row.cell RW.out 3
  have c4W := Row.cell RW.out 4
  have c0X := Row.cell RX.out 0
  have c1X := Row.cell RX.out 1
  have c2X := Row.cell RX.out 2
  have c0G := Row.cell RG.out 0
  have c1G := Row.cell RG.out 1
  have c2G := Row.cell RG.out 2
  have c3G := Row.cell RG.out 3
  have c4G := Row.cell RG.out 4
  go_wp2_with fail
  clear c0x c1x c2x c0W c1W c2W c3W c4W c0X c1X c2X c0G c1G c2G c3G c4G
  clear ltx ltW ltX ltG
  refine (c_eqAges (.slice paG gf qaG) (.slice pbG gl qbG) (.slice pcG gr qcG) (.slice poG go qoG) (.slice pkG gk qkG) (.slice paW gf qaW) (.slice pbW gl qbW) (.slice pcW gr qcW) (.slice poW go qoW) (.slice pkW gk qkW) gh gs gz _ OG.out.heap OG.out.old OG.out.book OW.out.heap OW.out.old OW.out.book HRZ.out.2.2.1 (by rw [HNgo.out]; exact HRZ.out.2.2.2.2) (by rw [HNgk.out]; exact HRZ.out.2.2.2.1)).mono ?_
  rintro e w2e ⟨rfl, hb⟩
  replace Rx := Lib.hid (Row.below Rx.out hb)
  replace RW := Lib.hid (Row.below RW.out hb)
  replace RX := Lib.hid (Row.below RX.out hb)
  replace RG := Lib.hid (Row.below RG.out hb)
  replace OW := Lib.hid (OwnA.below OW.out hb)
  replace OG := Lib.hid (OwnA.below OG.out hb)
  have S16 : Hid (wmx.heap.size ≤ w2e.heap.size) := hb.size
  replace L := Lib.hid (bst L.out hb L.out.size)
  clear hb
  have ltx := Row.lt Rx.out
  have ltW := Row.lt RW.out
  have ltX := Row.lt RX.out
  have ltG := Row.lt RG.out
  have c0x := Row.cell Rx.out 0
  have c1x := Row.cell Rx.out 1
  have c2x := Row.cell Rx.out 2
  have c0W := Row.cell RW.out 0
  have c1W := Row.cell RW.out 1
  have c2W := Row.cell RW.out 2
  have c3W := Row.cell RW.out 3
  have c4W := Row.cell RW.out 4
  have c0X := Row.cell RX.out 0
  have c1X := Row.cell RX.out 1
  have c2X := Row.cell RX.out 2
  have c0G := Row.cell RG.out 0
  have c1G := Row.cell RG.out 1
  have c2G := Row.cell RG.out 2
  have c3G := Row.cell RG.out 3
  have c4G := Row.cell RG.out 4
  go_wp2_with fail
  clear c0x c1x c2x c0W c1W c2W c3W c4W c0X c1X c2X c0G c1G c2G c3G c4G
  clear ltx ltW ltX ltG
  refine (c_markAges (wX.alloc (.cells (c3 (.slice paX nf qaX) (.slice pbX nl qbX) (.slice pcX nr qcX)) 32)).heap.size wG.heap.size (.slice paG gf qaG) (.slice pbG gl qbG) (.slice pcG gr qcG) (.slice poG go qoG) (.slice pkG gk qkG) gh gs gz 1 _ OG.out (by omega) (by have := HRZ.out.2.2.2; rw [HSMg.out, HNgo.out, HNgk.out]; have h9 := HRZ.out.1; omega) (by rw [HNgf.out]; have := HRZ.out.2.1; omega) (by have := S1.out; have := S2.out; have := S3.out; have := S4.out; have := S5.out; have := S6.out; have := S7.out; have := S8.out; have := S9.out; have := S10.out; have := S11.out; have := S12.out; have := S13.out; have := S14.out; have := S15.out; have := S16.out; omega)).mono ?_
  rintro e wmG ⟨rfl, ho, hch⟩
  rw [HSMg.out, HNgo.out, HNgk.out] at ho ⊢
  have Qx : Hid (w.heap.size < w2e.heap.size) := Row.lt Rx.out
  have QW : Hid (wW.heap.size < w2e.heap.size) := Row.lt RW.out
  have QX : Hid (wX.heap.size < w2e.heap.size) := Row.lt RX.out
  have QG : Hid (wG.heap.size < w2e.heap.size) := Row.lt RG.out
  replace Rx := Lib.hid (Row.chg Rx.out hch (by have := S1.out; have := S2.out; have := S3.out; have := S4.out; have := S5.out; have := S6.out; have := S7.out; have := S8.out; have := S9.out; have := S10.out; have := S11.out; have := S12.out; have := S13.out; have := S14.out; have := S15.out; have := S16.out; have := Qx.out; omega))
  replace RW := Lib.hid (Row.chg RW.out hch (by have := S1.out; have := S2.out; have := S3.out; have := S4.out; have := S5.out; have := S6.out; have := S7.out; have := S8.out; have := S9.out; have := S10.out; have := S11.out; have := S12.out; have := S13.out; have := S14.out; have := S15.out; have := S16.out; have := QW.out; omega))
  replace RX := Lib.hid (Row.chg RX.out hch (by have := S1.out; have := S2.out; have := S3.out; have := S4.out; have := S5.out; have := S6.out; have := S7.out; have := S8.out; have := S9.out; have := S10.out; have := S11.out; have := S12.out; have := S13.out; have := S14.out; have := S15.out; have := S16.out; have := QX.out; omega))
  replace RG := Lib.hid (Row.chg RG.out hch (by have := S1.out; have := S2.out; have := S3.out; have := S4.out; have := S5.out; have := S6.out; have := S7.out; have := S8.out; have := S9.out; have := S10.out; have := S11.out; have := S12.out; have := S13.out; have := S14.out; have := S15.out; have := S16.out; have := QG.out; omega))
  replace OW := Lib.hid (OwnA.chg OW.out hch (by have := S1.out; have := S2.out; have := S3.out; have := S4.out; have := S5.out; have := S6.out; have := S7.out; have := S8.out; have := S9.out; have := S10.out; have := S11.out; have := S12.out; have := S13.out; have := S14.out; have := S15.out; have := S16.out; omega))
  replace L := Lib.hid (below_chg L.out hch (by have := S1.out; have := S2.out; have := S3.out; have := S4.out; have := S5.out; have := S6.out; have := S7.out; have := S8.out; have := S9.out; have := S10.out; have := S11.out; have := S12.out; have := S13.out; have := S14.out; have := S15.out; have := S16.out; have := Qx.out; omega) L.out.size)
  have S17 : Hid (w2e.heap.size ≤ wmG.heap.size) := hch.size
  clear hch Qx QW QX QG
  replace OG := Lib.hid ho
  clear ho
  have ltx := Row.lt Rx.out
  have ltW := Row.lt RW.out
  have ltX := Row.lt RX.out
  have ltG := Row.lt RG.out
  have c0x := Row.cell Rx.out 0
  have c1x := Row.cell Rx.out 1
  have c2x := Row.cell Rx.out 2
  have c0W := Row.cell RW.out 0
  have c1W := Row.cell RW.out 1
  have c2W := Row.cell RW.out 2
  have c3W := Row.cell RW.out 3
  have c4W := Row.cell RW.out 4
  have c0X := Row.cell RX.out 0
  have c1X := Row.cell RX.out 1
  have c2X := Row.cell RX.out 2
  have c0G := Row.cell RG.out 0
  have c1G := Row.cell RG.out 1
  have c2G := Row.cell RG.out 2
  have c3G := Row.cell RG.out 3
  have c4G := Row.cell RG.out 4
  go_wp2_with fail
  clear c0x c1x c2x c0W c1W c2W c3W c4W c0X c1X c2X c0G c1G c2G c3G c4G
  clear ltx ltW ltX ltG
  refine (c_heldAges (.slice paG gf qaG) (.slice pbG gl qbG) (.slice pcG gr qcG) (.slice poG go qoG) (.slice pkG gk qkG) gh go gk 1 _ OG.out.heap (by rw [HSMg.out]; exact OG.out.old) (by rw [HSMg.out]; exact OG.out.book) (by omega) (by rw [HSMg.out]; have h9 := HRZ.out.1; have := HRZ.out.2.2.2; omega) (by rw [HNgf.out]; have := HRZ.out.2.1; omega)).mono ?_
  rintro e wh1 ⟨rfl, hb⟩
  rw [HSMg.out]
  replace Rx := Lib.hid (Row.below Rx.out hb)
  replace RW := Lib.hid (Row.below RW.out hb)
  replace RX := Lib.hid (Row.below RX.out hb)
  replace RG := Lib.hid (Row.below RG.out hb)
  replace OW := Lib.hid (OwnA.below OW.out hb)
  replace OG := Lib.hid (OwnA.below OG.out hb)
  have S18 : Hid (wmG.heap.size ≤ wh1.heap.size) := hb.size
  replace L := Lib.hid (bst L.out hb L.out.size)
  clear hb
  have ltx := Row.lt Rx.out
  have ltW := Row.lt RW.out
  have ltX := Row.lt RX.out
  have ltG := Row.lt RG.out
  have c0x := Row.cell Rx.out 0
  have c1x := Row.cell Rx.out 1
  have c2x := Row.cell Rx.out 2
  have c0W := Row.cell RW.out 0
  have c1W := Row.cell RW.out 1
  have c2W := Row.cell RW.out 2
  have c3W := Row.cell RW.out 3
  have c4W := Row.cell RW.out 4
  have c0X := Row.cell RX.out 0
  have c1X := Row.cell RX.out 1
  have c2X := Row.cell RX.out 2
  have c0G := Row.cell RG.out 0
  have c1G := Row.cell RG.out 1
  have c2G := Row.cell RG.out 2
  have c3G := Row.cell RG.out 3
  have c4G := Row.cell RG.out 4
  go_wp2_with fail
  clear c0x c1x c2x c0W c1W c2W c3W c4W c0X c1X c2X c0G c1G c2G c3G c4G
  clear ltx ltW ltX ltG
  refine (c_toHeap (.slice paA nf qaA) (.slice pbA nl qbA) (.slice pcA nr qcA) hx _ (HZ.out.below L.out) HM.out).mono ?_
  rintro e wT ⟨aT, bT, cT, rfl, ho, hb⟩
  have hsh := ho.shapes
  simp only [HNnf.out, HNnl.out, HNnr.out] at hsh
  obtain ⟨⟨paT, qaT, rfl⟩, ⟨pbT, qbT, rfl⟩, ⟨pcT, qcT, rfl⟩⟩ := hsh
  have OT : Hid (OwnH wT wh1.heap.size wT.heap.size (.slice paT nf qaT) (.slice pbT nl qbT) (.slice pcT nr qcT) hx) := ho
  clear ho
  replace Rx := Lib.hid (Row.below Rx.out hb)
  replace RW := Lib.hid (Row.below RW.out hb)
  replace RX := Lib.hid (Row.below RX.out hb)
  replace RG := Lib.hid (Row.below RG.out hb)
  replace OW := Lib.hid (OwnA.below OW.out hb)
  replace OG := Lib.hid (OwnA.below OG.out hb)
  have S19 : Hid (wh1.heap.size ≤ wT.heap.size) := hb.size
  replace L := Lib.hid (bst L.out hb L.out.size)
  clear hb
  have ltx := Row.lt Rx.out
  have ltW := Row.lt RW.out
  have ltX := Row.lt RX.out
  have ltG := Row.lt RG.out
  have c0x := Row.cell Rx.out 0
  have c1x := Row.cell Rx.out 1
  have c2x := Row.cell Rx.out 2
  have c0W := Row.cell RW.out 0
  have c1W := Row.cell RW.out 1
  have c2W := Row.cell RW.out 2
  have c3W := Row.cell RW.out 3
  have c4W := Row.cell RW.out 4
  have c0X := Row.cell RX.out 0
  have c1X := Row.cell RX.out 1
  have c2X := Row.cell RX.out 2
  have c0G := Row.cell RG.out 0
  have c1G := Row.cell RG.out 1
  have c2G := Row.cell RG.out 2
  have c3G := Row.cell RG.out 3
  have c4G := Row.cell RG.out 4
  go_wp2_with fail
  clear c0x c1x c2x c0W c1W c2W c3W c4W c0X c1X c2X c0G c1G c2G c3G c4G
  clear ltx ltW ltX ltG
  refine (HI.out _ (.slice paT nf qaT) (.slice pbT nl qbT) (.slice pcT nr qcT) OT.out.reads).mono ?_
  rintro e wH ⟨aH, bH, cH, oH, kH, rfl, ho, hb⟩
  have hsh := ho.shapes
  simp only [HNgf.out, HNgl.out, HNgr.out, HNgo.out, HNgk.out] at hsh
  obtain ⟨⟨paH, qaH, rfl⟩, ⟨pbH, qbH, rfl⟩, ⟨pcH, qcH, rfl⟩, ⟨poH, qoH, rfl⟩, ⟨pkH, qkH, rfl⟩⟩ := hsh
  have OH : Hid (OwnA wH wT.heap.size wH.heap.size (.slice paH gf qaH) (.slice pbH gl qbH) (.slice pcH gr qcH) (.slice poH go qoH) (.slice pkH gk qkH) gh gs gz) := ho
  clear ho
  replace Rx := Lib.hid (Row.below Rx.out hb)
  replace RW := Lib.hid (Row.below RW.out hb)
  replace RX := Lib.hid (Row.below RX.out hb)
  replace RG := Lib.hid (Row.below RG.out hb)
  replace OW := Lib.hid (OwnA.below OW.out hb)
  replace OG := Lib.hid (OwnA.below OG.out hb)
  replace OT := Lib.hid (OwnH.below OT.out hb)
  have S20 : Hid (wT.heap.size ≤ wH.heap.size) := hb.size
  replace L := Lib.hid (bst L.out hb L.out.size)
  clear hb
  clear OT
  have ltx := Row.lt Rx.out
  have ltW := Row.lt RW.out
  have ltX := Row.lt RX.out
  have ltG := Row.lt RG.out
  have c0x := Row.cell Rx.out 0
  have c1x := Row.cell Rx.out 1
  have c2x := Row.cell Rx.out 2
  have c0W := Row.cell RW.out 0
  have c1W := Row.cell RW.out 1
  have c2W := Row.cell RW.out 2
  have c3W := Row.cell RW.out 3
  have c4W := Row.cell RW.out 4
  have c0X := Row.cell RX.out 0
  have c1X := Row.cell RX.out 1
  have c2X := Row.cell RX.out 2
  have c0G := Row.cell RG.out 0
  have c1G := Row.cell RG.out 1
  have c2G := Row.cell RG.out 2
  have c3G := Row.cell RG.out 3
  have c4G := Row.cell RG.out 4
  go_wp2_with fail
  clear c0x c1x c2x c0W c1W c2W c3W c4W c0X c1X c2X c0G c1G c2G c3G c4G
  clear ltx ltW ltX ltG
  have hb := below1 wH (.cells (a5 (.slice paH gf qaH) (.slice pbH gl qbH) (.slice pcH gr qcH) (.slice poH go qoH) (.slice pkH gk qkH)) 59)
  have RN : Hid (Row (wH.alloc (.cells (a5 (.slice paH gf qaH) (.slice pbH gl qbH) (.slice pcH gr qcH) (.slice poH go qoH) (.slice pkH gk qkH)) 59)) wH.heap.size 59 (a5 (.slice paH gf qaH) (.slice pbH gl qbH) (.slice pcH gr qcH) (.slice poH go qoH) (.slice pkH gk qkH))) := Row.new wH _ _
  have S21 : Hid (wH.heap.size < (wH.alloc (.cells (a5 (.slice paH gf qaH) (.slice pbH gl qbH) (.slice pcH gr qcH) (.slice poH go qoH) (.slice pkH gk qkH)) 59)).heap.size) := (by unfold Hid; simp)
  replace Rx := Lib.hid (Row.below Rx.out hb)
  replace RW := Lib.hid (Row.below RW.out hb)
  replace RX := Lib.hid (Row.below RX.out hb)
  replace RG := Lib.hid (Row.below RG.out hb)
  replace OW := Lib.hid (OwnA.below OW.out hb)
  replace OG := Lib.hid (OwnA.below OG.out hb)
  replace OH := Lib.hid (OwnA.below OH.out hb)
  have S22 : Hid (wH.heap.size ≤ (wH.alloc (.cells (a5 (.slice paH gf qaH) (.slice pbH gl qbH) (.slice pcH gr qcH) (.slice poH go qoH) (.slice pkH gk qkH)) 59)).heap.size) := hb.size
  replace L := Lib.hid (bst L.out hb L.out.size)
  clear hb
  have RH := RN
  clear RN
  refine (c_eqAges (.slice paH gf qaH) (.slice pbH gl qbH) (.slice pcH gr qcH) (.slice poH go qoH) (.slice pkH gk qkH) (.slice paW gf qaW) (.slice pbW gl qbW) (.slice pcW gr qcW) (.slice poW go qoW) (.slice pkW gk qkW) gh gs gz _ OH.out.heap OH.out.old OH.out.book OW.out.heap OW.out.old OW.out.book HRZ.out.2.2.1 (by rw [HNgo.out]; exact HRZ.out.2.2.2.2) (by rw [HNgk.out]; exact HRZ.out.2.2.2.1)).mono ?_
  rintro e w3e ⟨rfl, hb⟩
  replace Rx := Lib.hid (Row.below Rx.out hb)
  replace RW := Lib.hid (Row.below RW.out hb)
  replace RX := Lib.hid (Row.below RX.out hb)
  replace RG := Lib.hid (Row.below RG.out hb)
  replace RH := Lib.hid (Row.below RH.out hb)
  replace OW := Lib.hid (OwnA.below OW.out hb)
  replace OG := Lib.hid (OwnA.below OG.out hb)
  replace OH := Lib.hid (OwnA.below OH.out hb)
  have S23 : Hid ((wH.alloc (.cells (a5 (.slice paH gf qaH) (.slice pbH gl qbH) (.slice pcH gr qcH) (.slice poH go qoH) (.slice pkH gk qkH)) 59)).heap.size ≤ w3e.heap.size) := hb.size
  replace L := Lib.hid (bst L.out hb L.out.size)
  clear hb
  have ltx := Row.lt Rx.out
  have ltW := Row.lt RW.out
  have ltX := Row.lt RX.out
  have ltG := Row.lt RG.out
  have ltH := Row.lt RH.out
  have c0x := Row.cell Rx.out 0
  have c1x := Row.cell Rx.out 1
  have c2x := Row.cell Rx.out 2
  have c0W := Row.cell RW.out 0
  have c1W := Row.cell RW.out 1
  have c2W := Row.cell RW.out 2
  have c3W := Row.cell RW.out 3
  have c4W := Row.cell RW.out 4
  have c0X := Row.cell RX.out 0
  have c1X := Row.cell RX.out 1
  have c2X := Row.cell RX.out 2
  have c0G := Row.cell RG.out 0
  have c1G := Row.cell RG.out 1
  have c2G := Row.cell RG.out 2
  have c3G := Row.cell RG.out 3
  have c4G := Row.cell RG.out 4
  have c0H := Row.cell RH.out 0
  have c1H := Row.cell RH.out 1
  have c2H := Row.cell RH.out 2
  have c3H := Row.cell RH.out 3
  have c4H := Row.cell RH.out 4
  go_wp2_with fail
  clear c0x c1x c2x c0W c1W c2W c3W c4W c0X c1X c2X c0G c1G c2G c3G c4G c0H c1H c2H c3H c4H
  clear ltx ltW ltX ltG ltH
  refine (c_heldAges (.slice paG gf qaG) (.slice pbG gl qbG) (.slice pcG gr qcG) (.slice poG go qoG) (.slice pkG gk qkG) gh go gk 1 _ OG.out.heap (by rw [HSMg.out]; exact OG.out.old) (by rw [HSMg.out]; exact OG.out.book) (by omega) (by rw [HSMg.out]; have h9 := HRZ.out.1; have := HRZ.out.2.2.2; omega) (by rw [HNgf.out]; have := HRZ.out.2.1; omega)).mono ?_
  rintro e wh2 ⟨rfl, hb⟩
  rw [HSMg.out]
  replace Rx := Lib.hid (Row.below Rx.out hb)
  replace RW := Lib.hid (Row.below RW.out hb)
  replace RX := Lib.hid (Row.below RX.out hb)
  replace RG := Lib.hid (Row.below RG.out hb)
  replace RH := Lib.hid (Row.below RH.out hb)
  replace OW := Lib.hid (OwnA.below OW.out hb)
  replace OG := Lib.hid (OwnA.below OG.out hb)
  replace OH := Lib.hid (OwnA.below OH.out hb)
  have S24 : Hid (w3e.heap.size ≤ wh2.heap.size) := hb.size
  replace L := Lib.hid (bst L.out hb L.out.size)
  clear hb
  have ltx := Row.lt Rx.out
  have ltW := Row.lt RW.out
  have ltX := Row.lt RX.out
  have ltG := Row.lt RG.out
  have ltH := Row.lt RH.out
  have c0x := Row.cell Rx.out 0
  have c1x := Row.cell Rx.out 1
  have c2x := Row.cell Rx.out 2
  have c0W := Row.cell RW.out 0
  have c1W := Row.cell RW.out 1
  have c2W := Row.cell RW.out 2
  have c3W := Row.cell RW.out 3
  have c4W := Row.cell RW.out 4
  have c0X := Row.cell RX.out 0
  have c1X := Row.cell RX.out 1
  have c2X := Row.cell RX.out 2
  have c0G := Row.cell RG.out 0
  have c1G := Row.cell RG.out 1
  have c2G := Row.cell RG.out 2
  have c3G := Row.cell RG.out 3
  have c4G := Row.cell RG.out 4
  have c0H := Row.cell RH.out 0
  have c1H := Row.cell RH.out 1
  have c2H := Row.cell RH.out 2
  have c3H := Row.cell RH.out 3
  have c4H := Row.cell RH.out 4
  go_wp2_with fail
  clear c0x c1x c2x c0W c1W c2W c3W c4W c0X c1X c2X c0G c1G c2G c3G c4G c0H c1H c2H c3H c4H
  clear ltx ltW ltX ltG ltH
  go_ret
  exact ⟨rfl, L.out⟩
set_option maxHeartbeats 1600000 in
set_option maxRecDepth 100000 in
theorem walk_FnExactNewAges (ax bx cx : Value) (hx : H) (w : World) (hzx : HeapAt w ax bx cx hx) (hfx : FitH hx) : Calls Try.prog 6 #[hv ax bx cx] w fun e w' => e = .returned (.bool true) ∧ Below w.heap.size w w' := by
  by_cases hm : wtH hx ≤ 1048576
  · exact core_FnExactNewAges ax bx cx hx (newAH hx) (newAO hx) [] (good hx) w hzx hm (newA_wt hx) (fun w a b c h => s_NewAges a b c hx w h) (fun w a b c h => c_NewAges a b c hx w h)
  · have HB0 := Lib.hid (below1 w (.cells (c3 ax bx cx) 26))
    have HA0 := Lib.hid (hzx.below HB0.out)
    have HF := Lib.hid hfx
    have HMM : Hid ((1048576 : Int) < (wtH hx : Int)) := by unfold Hid; omega
    have HC := Lib.hid (c_szHeap_no _ _ _ hx 1048576 _ HA0.out HF.out (by omega) (by omega) HMM.out)
    clear hzx HA0 hfx HF HMM hm
    go_enter Try.func6, Try.ntmps6
    go_wp2_with fail
    refine HC.out.mono ?_
    rintro e w1 ⟨rfl, hb1⟩
    have HB1 := Lib.hid (bst HB0.out hb1 HB0.out.size)
    clear hb1 HC
    go_wp2
    go_ret
    exact ⟨rfl, HB1.out⟩
end Go.Proofs.Ytbmfkgfmibpkjaa
namespace Go.Proofs.Ytbmfkgfmibpkjaa.xNewAges
open Go.ChangeShapes Go.WideShapes Go.ChangeAt Go.RowKit

set_option maxRecDepth 100000 in
theorem contract (H : Type) (enc : TypeId × Value → H) (W : World) (base : Nat) (args : Array Value) (ds gs : List (DataW H)) (before : List MemPlace)
    (hval : ∀ (j : Nat) t v, Try.f6.params[j]? = some t → args[j]? = some v → Value.okWide Try.prog W .any base t v)
    (hW : DataW.Whole enc Try.prog Try.f6.params.toList Rows.fnExactNewAgesSpec.vars false W args.toList ds gs before) :
    Calls Try.prog 6 args W fun e W' => ∃ v, e = .returned v ∧ Rows.fnExactNewAgesSpec.post enc Try.prog Try.f6 false true false false W args v W' := by
  have hW' := hW
  obtain ⟨p, q, hA0, hV, rfl, hfz, hnd⟩ := hW
  have hA : DataW.TrodAll enc Try.prog W 0 (fun _ => true) true Try.f6.params.toList args.toList ds p := hA0
  have hpar : ∀ t ∈ Try.f6.params.toList, Try.prog.readableRec t = true ∧ t < Try.prog.types.size := by
    rw [Try.params6]; intro t ht; simp at ht; subst ht; exact r_heap
  rw [Try.params6] at hA hval
  obtain ⟨v0, vs0, d0, ds0, p0, q0, hargs, rfl, rfl, h0, r0⟩ := trodAll_cons hA
  obtain ⟨rfl, rfl, rfl⟩ := trodAll_nil r0
  obtain rfl : args = #[v0] := by cases args; simp_all
  obtain ⟨rfl, rfl⟩ := trodVars_none hV
  obtain ⟨fa0, fb0, fc0, z0, rfl, hz0, hn0⟩ := heap_of_arg (hval 0 26 v0 rfl rfl) h0
  refine (walk_FnExactNewAges fa0 fb0 fc0 z0 W hz0 hn0).mono fun e W' ⟨he, hb⟩ => ?_
  subst he
  exact ⟨_, rfl, law_post laidOut hpar (fun n hn => by cases hn) hW' hb rfl (by kernel_rfl) Try.underlying4⟩

set_option maxRecDepth 100000 in
theorem lifted (os : Os) (started : os.Started) (H : Type) (enc : TypeId × Value → H) :
    ReturnsInHanded {} Try.checked os 6 .any (Rows.fnExactNewAgesSpec.pre6 enc Try.prog Try.f6 Rows.fnExactNewAgesRow.domain false) (Rows.fnExactNewAgesSpec.post enc Try.prog Try.f6 false true false false) := by
  refine returnsInHanded_of_change (C := Try.checked) own started (by kernel_rfl) Try.func6
    (ChangeSpec.witness6 (enc := enc) (C := Try.checked) false ⟨#[], #[.agg #[.slice none 0 0, .slice none 0 0, .slice none 0 0]], []⟩ 8 (by kernel_rfl) (by kernel_rfl) (by kernel_rfl) (by kernel_rfl)) ?_
  intro W base args ds gs before hval hW _ _
  exact contract H enc W base args ds gs before hval hW
end Go.Proofs.Ytbmfkgfmibpkjaa.xNewAges
namespace Go.Proofs.Ytbmfkgfmibpkjaa
theorem xNewAges_said : Rows.FnExactNewAgesSaid :=
  OpenClaim.holds_of_wide 6 Try.f6 rfl rfl rfl rfl rfl rfl rfl ⟨rfl, rfl, rfl, rfl, rfl⟩ rfl rfl rfl rfl rfl (by kernel_rfl) Try.func6 (by kernel_rfl)
    (of_decide_eq_true (by kernel_rfl)) (by unfold Func.isWrapper; first | (rw [if_pos (by decide +kernel)]; kernel_rfl) | (rw [if_neg (by decide +kernel)]; exact ⟨rfl, rfl⟩))
    (fun os started H enc _ => xNewAges.lifted os started H enc)
end Go.Proofs.Ytbmfkgfmibpkjaa
