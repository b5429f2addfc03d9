/- laws.FnExactCleanHeap: for every input the law answers true, and the input reads as it did. No condition. -/
import Derived.Test.YtkkigoamphkalaaQA4
namespace Go.Proofs.Ytkkigoamphkalaa
open Go.RowKit Ph

set_option maxHeartbeats 12800000 in
set_option maxRecDepth 100000 in
theorem core_FnExactCleanHeap (ax bx cx : Value) (hx : H) (gh : H) (nn : Int) (ok : Bool) (w : World) (hzx : HeapAt w ax bx cx hx) (hm : wtH hx ≤ 1048576) (hrs : wtH gh ≤ 1000)
    (hS : ∀ (w : World) (ax bx cx : Value), HeapAt w ax bx cx hx → Calls Try.prog 28 #[hv ax bx cx] w (EndHI gh nn ok w))
    (hI : ∀ (w : World) (ax bx cx : Value), HeapAt w ax bx cx hx → Calls Try.prog 29 #[hv ax bx cx] w (EndHI gh nn ok w)) :
    Calls Try.prog 5 #[hv ax bx cx] w fun e w' => e = .returned (.bool true) ∧ Below w.heap.size w w' := by
  have HZx := Lib.hid hzx
  have HS := Lib.hid hS; have HI := Lib.hid hI
  clear hS hI
  obtain ⟨paAx, qaAx, rfl⟩ := hzx.f.shape
  obtain ⟨pbAx, qbAx, rfl⟩ := hzx.l.shape
  obtain ⟨pcAx, qcAx, rfl⟩ := hzx.r.shape
  clear hzx
  have HSZx : Hid (szM hx ≤ 1048576 ∧ hx.f.length ≤ 1048576) := by unfold Hid szM; have := hm; unfold wtH wt at this; omega
  have HRS : Hid (wtH gh ≤ 1048576) := by unfold Hid; omega
  have HRZ : Hid (szM gh ≤ 1048576 ∧ gh.f.length ≤ 1048576) := by unfold Hid szM; have := hrs; unfold wtH wt at this; omega
  clear hrs
  generalize hwtx : wtH hx = wtx at *
  have HWTx := Lib.hid hwtx; clear hwtx
  generalize hnnfx : hx.f.length = nfx at *
  have HNnfx := Lib.hid hnnfx; clear hnnfx
  generalize hnnlx : hx.l.length = nlx at *
  have HNnlx := Lib.hid hnnlx; clear hnnlx
  generalize hnnrx : hx.r.length = nrx at *
  have HNnrx := Lib.hid hnnrx; clear hnnrx
  generalize hszx : szM hx = szx at *
  have HSMx := Lib.hid hszx; clear hszx
  have HMx : Hid (wtH hx ≤ 1048576) := by unfold Hid; rw [HWTx.out]; omega
  generalize hngf : gh.f.length = gf at *
  have HNgf := Lib.hid hngf; clear hngf
  generalize hngl : gh.l.length = gl at *
  have HNgl := Lib.hid hngl; clear hngl
  generalize hngr : gh.r.length = gr at *
  have HNgr := Lib.hid hngr; clear hngr
  generalize hszg : szM gh = szg at *
  have HSMg := Lib.hid hszg; clear hszg
  have hl0x : ¬ ((1048576 : Int) - (wtx : Int)) < 0 := by omega
  have e1 : (ok != ok) = false := by simp
  have e3 : (nn != nn) = false := by simp
  have L := below1 w (.cells (c3 (.slice paAx nfx qaAx) (.slice pbAx nlx qbAx) (.slice pcAx nrx qcAx)) 26)
  have Rx : Row _ w.heap.size 26 (c3 (.slice paAx nfx qaAx) (.slice pbAx nlx qbAx) (.slice pcAx nrx qcAx)) := Row.new w _ _
  go_enter Try.func5, Try.ntmps5
  go_wp2_with fail
  refine (c_szHeap_yes (.slice paAx nfx qaAx) (.slice pbAx nlx qbAx) (.slice pcAx nrx qcAx) hx (1048576) _ (HeapAt.below HZx.out L) (by omega) (by rw [HWTx.out]; omega)).mono ?_
  rintro e wsx ⟨rfl, hb⟩
  rw [HWTx.out]
  replace Rx := Row.below Rx hb
  have hs0 := hb.size
  try simp only [World.size_alloc] at hs0
  replace L := bst L hb L.size
  clear hb
  have c0x := Row.cell Rx 0
  have c1x := Row.cell Rx 1
  have c2x := Row.cell Rx 2
  have ltx := Row.lt Rx
  go_wp2_with fail
  clear c0x c1x c2x ltx
  refine (c_toHeap (.slice paAx nfx qaAx) (.slice pbAx nlx qbAx) (.slice pcAx nrx qcAx) hx _ (HeapAt.below HZx.out L) HMx.out).mono ?_
  rintro e wsx1 ⟨asx, bsx, csx, rfl, ho, hb⟩
  try simp only [World.size_alloc] at ho
  have hsh := ho.shapes
  simp only [HNnfx.out, HNnlx.out, HNnrx.out] at hsh
  obtain ⟨⟨pasx, qasx, rfl⟩, ⟨pbsx, qbsx, rfl⟩, ⟨pcsx, qcsx, rfl⟩⟩ := hsh
  replace Rx := Row.below Rx hb
  have hs1 := hb.size
  try simp only [World.size_alloc] at hs1
  replace L := bst L hb L.size
  clear hb
  have Osx := ho
  clear ho
  have c0x := Row.cell Rx 0
  have c1x := Row.cell Rx 1
  have c2x := Row.cell Rx 2
  have ltx := Row.lt Rx
  go_wp2_with fail
  clear c0x c1x c2x ltx
  refine (HS.out _ (.slice pasx nfx qasx) (.slice pbsx nlx qbsx) (.slice pcsx nrx qcsx) Osx.reads).mono ?_
  rintro e wW ⟨aW, bW, cW, rfl, ho, hb⟩
  try simp only [World.size_alloc] at ho
  have hsh := ho.shapes
  simp only [HNgf.out, HNgl.out, HNgr.out] at hsh
  obtain ⟨⟨paW, qaW, rfl⟩, ⟨pbW, qbW, rfl⟩, ⟨pcW, qcW, rfl⟩⟩ := hsh
  replace Rx := Row.below Rx hb
  replace Osx := OwnH.below Osx hb
  have hs2 := hb.size
  try simp only [World.size_alloc] at hs2
  replace L := bst L hb L.size
  clear hb
  have OW := ho
  clear ho
  clear Osx
  have c0x := Row.cell Rx 0
  have c1x := Row.cell Rx 1
  have c2x := Row.cell Rx 2
  have ltx := Row.lt Rx
  go_wp2_with fail
  clear c0x c1x c2x ltx
  replace Rx := Row.alloc Rx (.cells (c3 (.slice paW gf qaW) (.slice pbW gl qbW) (.slice pcW gr qcW)) 30)
  have RW := Row.new wW 30 (c3 (.slice paW gf qaW) (.slice pbW gl qbW) (.slice pcW gr qcW))
  replace OW := OwnH.below OW (below1 _ (.cells (c3 (.slice paW gf qaW) (.slice pbW gl qbW) (.slice pcW gr qcW)) 30))
  replace L := Below.alloc L L.size (.cells (c3 (.slice paW gf qaW) (.slice pbW gl qbW) (.slice pcW gr qcW)) 30)
  refine (c_toHeap (.slice paAx nfx qaAx) (.slice pbAx nlx qbAx) (.slice pcAx nrx qcAx) hx _ (HeapAt.below HZx.out L) HMx.out).mono ?_
  rintro e wXx ⟨aXx, bXx, cXx, rfl, ho, hb⟩
  try simp only [World.size_alloc] at ho
  have hsh := ho.shapes
  simp only [HNnfx.out, HNnlx.out, HNnrx.out] at hsh
  obtain ⟨⟨paXx, qaXx, rfl⟩, ⟨pbXx, qbXx, rfl⟩, ⟨pcXx, qcXx, rfl⟩⟩ := hsh
  replace Rx := Row.below Rx hb
  replace RW := Row.below RW hb
  replace OW := OwnH.below OW hb
  have hs3 := hb.size
  try simp only [World.size_alloc] at hs3
  replace L := bst L hb L.size
  clear hb
  have OXx := ho
  clear ho
  have c0x := Row.cell Rx 0
  have c1x := Row.cell Rx 1
  have c2x := Row.cell Rx 2
  have ltx := Row.lt Rx
  have c0W := Row.cell RW 0
  have c1W := Row.cell RW 1
  have c2W := Row.cell RW 2
  have ltW := Row.lt RW
  go_wp2_with fail
  clear c0x c1x c2x ltx c0W c1W c2W ltW
  replace Rx := Row.alloc Rx (.cells (c3 (.slice paXx nfx qaXx) (.slice pbXx nlx qbXx) (.slice pcXx nrx qcXx)) 30)
  replace RW := Row.alloc RW (.cells (c3 (.slice paXx nfx qaXx) (.slice pbXx nlx qbXx) (.slice pcXx nrx qcXx)) 30)
  have RXx := Row.new wXx 30 (c3 (.slice paXx nfx qaXx) (.slice pbXx nlx qbXx) (.slice pcXx nrx qcXx))
  replace OW := OwnH.below OW (below1 _ (.cells (c3 (.slice paXx nfx qaXx) (.slice pbXx nlx qbXx) (.slice pcXx nrx qcXx)) 30))
  replace OXx := OwnH.below OXx (below1 _ (.cells (c3 (.slice paXx nfx qaXx) (.slice pbXx nlx qbXx) (.slice pcXx nrx qcXx)) 30))
  replace L := Below.alloc L L.size (.cells (c3 (.slice paXx nfx qaXx) (.slice pbXx nlx qbXx) (.slice pcXx nrx qcXx)) 30)
  refine (HI.out _ (.slice paXx nfx qaXx) (.slice pbXx nlx qbXx) (.slice pcXx nrx qcXx) OXx.reads).mono ?_
  rintro e wG ⟨aG, bG, cG, rfl, ho, hb⟩
  try simp only [World.size_alloc] at ho
  have hsh := ho.shapes
  simp only [HNgf.out, HNgl.out, HNgr.out] at hsh
  obtain ⟨⟨paG, qaG, rfl⟩, ⟨pbG, qbG, rfl⟩, ⟨pcG, qcG, rfl⟩⟩ := hsh
  replace Rx := Row.below Rx hb
  replace RW := Row.below RW hb
  replace RXx := Row.below RXx hb
  replace OW := OwnH.below OW hb
  replace OXx := OwnH.below OXx hb
  have hs4 := hb.size
  try simp only [World.size_alloc] at hs4
  replace L := bst L hb L.size
  clear hb
  have OG := ho
  clear ho
  have c0x := Row.cell Rx 0
  have c1x := Row.cell Rx 1
  have c2x := Row.cell Rx 2
  have ltx := Row.lt Rx
  have c0W := Row.cell RW 0
  have c1W := Row.cell RW 1
  have c2W := Row.cell RW 2
  have ltW := Row.lt RW
  have c0Xx := Row.cell RXx 0
  have c1Xx := Row.cell RXx 1
  have c2Xx := Row.cell RXx 2
  have ltXx := Row.lt RXx
  go_wp2_with fail
  clear c0x c1x c2x ltx c0W c1W c2W ltW c0Xx c1Xx c2Xx ltXx
  replace Rx := Row.alloc Rx (.cells (c3 (.slice paG gf qaG) (.slice pbG gl qbG) (.slice pcG gr qcG)) 30)
  replace RW := Row.alloc RW (.cells (c3 (.slice paG gf qaG) (.slice pbG gl qbG) (.slice pcG gr qcG)) 30)
  replace RXx := Row.alloc RXx (.cells (c3 (.slice paG gf qaG) (.slice pbG gl qbG) (.slice pcG gr qcG)) 30)
  have RG := Row.new wG 30 (c3 (.slice paG gf qaG) (.slice pbG gl qbG) (.slice pcG gr qcG))
  replace OW := OwnH.below OW (below1 _ (.cells (c3 (.slice paG gf qaG) (.slice pbG gl qbG) (.slice pcG gr qcG)) 30))
  replace OXx := OwnH.below OXx (below1 _ (.cells (c3 (.slice paG gf qaG) (.slice pbG gl qbG) (.slice pcG gr qcG)) 30))
  replace OG := OwnH.below OG (below1 _ (.cells (c3 (.slice paG gf qaG) (.slice pbG gl qbG) (.slice pcG gr qcG)) 30))
  replace L := Below.alloc L L.size (.cells (c3 (.slice paG gf qaG) (.slice pbG gl qbG) (.slice pcG gr qcG)) 30)
  refine (c_eqHeap (.slice paG gf qaG) (.slice pbG gl qbG) (.slice pcG gr qcG) (.slice paW gf qaW) (.slice pbW gl qbW) (.slice pcW gr qcW) gh _ OG.reads OW.reads HRS.out).mono ?_
  rintro e w1e ⟨rfl, hb⟩
  replace Rx := Row.below Rx hb
  replace RW := Row.below RW hb
  replace RXx := Row.below RXx hb
  replace RG := Row.below RG hb
  replace OW := OwnH.below OW hb
  replace OXx := OwnH.below OXx hb
  replace OG := OwnH.below OG hb
  have hs5 := hb.size
  try simp only [World.size_alloc] at hs5
  replace L := bst L hb L.size
  clear hb
  have c0x := Row.cell Rx 0
  have c1x := Row.cell Rx 1
  have c2x := Row.cell Rx 2
  have ltx := Row.lt Rx
  have c0W := Row.cell RW 0
  have c1W := Row.cell RW 1
  have c2W := Row.cell RW 2
  have ltW := Row.lt RW
  have c0Xx := Row.cell RXx 0
  have c1Xx := Row.cell RXx 1
  have c2Xx := Row.cell RXx 2
  have ltXx := Row.lt RXx
  have c0G := Row.cell RG 0
  have c1G := Row.cell RG 1
  have c2G := Row.cell RG 2
  have ltG := Row.lt RG
  go_wp2_with fail
  have RR0 : w1e.drew.cell? ⟨w.heap.size, 0, none⟩ = some (.slice paAx nfx qaAx) := Row.cell Rx 0
  have RR1 : w1e.drew.cell? ⟨w.heap.size, 1, none⟩ = some (.slice pbAx nlx qbAx) := Row.cell Rx 1
  have RR2 : w1e.drew.cell? ⟨w.heap.size, 2, none⟩ = some (.slice pcAx nrx qcAx) := Row.cell Rx 2
  have RX0 : w1e.drew.cell? ⟨wXx.heap.size, 0, none⟩ = some (.slice paXx nfx qaXx) := Row.cell RXx 0
  have RX1 : w1e.drew.cell? ⟨wXx.heap.size, 1, none⟩ = some (.slice pbXx nlx qbXx) := Row.cell RXx 1
  have RX2 : w1e.drew.cell? ⟨wXx.heap.size, 2, none⟩ = some (.slice pcXx nrx qcXx) := Row.cell RXx 2
  have BD := below_drew (Below.refl w1e.heap.size w1e)
  have IZ := Lib.hid (HeapAt.below HZx.out (below_drew L))
  have IX := Lib.hid (OXx.reads.below BD)
  clear c0x c1x c2x ltx c0W c1W c2W ltW c0Xx c1Xx c2Xx ltXx c0G c1G c2G ltG
  go_region_held3 (fun w' => w'.cell? ⟨w.heap.size, 0, none⟩ = some (.slice paAx nfx qaAx) ∧ w'.cell? ⟨w.heap.size, 1, none⟩ = some (.slice pbAx nlx qbAx) ∧ w'.cell? ⟨w.heap.size, 2, none⟩ = some (.slice pcAx nrx qcAx) ∧ w'.cell? ⟨wXx.heap.size, 0, none⟩ = some (.slice paXx nfx qaXx) ∧ w'.cell? ⟨wXx.heap.size, 1, none⟩ = some (.slice pbXx nlx qbXx) ∧ w'.cell? ⟨wXx.heap.size, 2, none⟩ = some (.slice pcXx nrx qcXx) ∧ Below w1e.heap.size w1e w')
    (first
      | (with_reducible exact ⟨RR0, RR1, RR2, RX0, RX1, RX2, BD⟩)
      | (go_split_ands
         exact ⟨cellBelow hbk (Nat.le_refl _) (by assumption), cellBelow hbk (Nat.le_refl _) (by assumption), cellBelow hbk (Nat.le_refl _) (by assumption), cellBelow hbk (Nat.le_refl _) (by assumption), cellBelow hbk (Nat.le_refl _) (by assumption), cellBelow hbk (Nat.le_refl _) (by assumption), bst (by assumption) hbk (Below.size (by assumption))⟩)
      | (go_split_ands; refine ⟨?_, ?_, ?_, ?_, ?_, ?_, ?_⟩ <;> assumption))
    (first
      | (go_at_call 16; refine (c_toHeap (.slice paAx nfx qaAx) (.slice pbAx nlx qbAx) (.slice pcAx nrx qcAx) hx _ IZ.out HMx.out).mono ?_; rintro e wxd1 ⟨aD, bD, cD, rfl, hoD, hbk⟩; have OD := Lib.hid hoD.reads; have XD := Lib.hid (IX.out.below hbk); clear hoD)
      | (go_at_call 19; refine (c_eqHeap _ _ _ _ _ _ hx _ XD.out OD.out HMx.out).mono ?_; rintro e wxd2 ⟨rfl, hbk⟩))
  have hb : Below w1e.heap.size w1e wxd2 := by go_split_ands; assumption
  clear OD XD IZ IX RR0 RX0 RR1 RX1 RR2 RX2 BD
  replace Rx := Row.below Rx hb
  replace RW := Row.below RW hb
  replace RXx := Row.below RXx hb
  replace RG := Row.below RG hb
  replace OW := OwnH.below OW hb
  replace OXx := OwnH.below OXx hb
  replace OG := OwnH.below OG hb
  have hs6 := hb.size
  try simp only [World.size_alloc] at hs6
  replace L := bst L hb L.size
  clear hb
  have c0x := Row.cell Rx 0
  have c1x := Row.cell Rx 1
  have c2x := Row.cell Rx 2
  have ltx := Row.lt Rx
  have c0W := Row.cell RW 0
  have c1W := Row.cell RW 1
  have c2W := Row.cell RW 2
  have ltW := Row.lt RW
  have c0Xx := Row.cell RXx 0
  have c1Xx := Row.cell RXx 1
  have c2Xx := Row.cell RXx 2
  have ltXx := Row.lt RXx
  have c0G := Row.cell RG 0
  have c1G := Row.cell RG 1
  have c2G := Row.cell RG 2
  have ltG := Row.lt RG
  go_wp2_with fail
  clear c0x c1x c2x ltx c0W c1W c2W ltW c0Xx c1Xx c2Xx ltXx c0G c1G c2G ltG
  refine (c_markHeap _ _ (.slice paXx nfx qaXx) (.slice pbXx nlx qbXx) (.slice pcXx nrx qcXx) hx (1) _ OXx (by omega) (by rw [HSMx.out]; have := HSZx.out.1; omega) (by rw [HNnfx.out]; have := HSZx.out.2; omega) (by omega)).mono ?_
  rintro e wmx ⟨rfl, ho, hch⟩
  rw [HSMx.out]
  replace Rx := Row.chg Rx hch (by omega)
  replace RW := Row.chg RW hch (by omega)
  replace RXx := Row.chg RXx hch (by omega)
  replace RG := Row.chg RG hch (by omega)
  replace OW := OwnH.chg OW hch (by omega)
  replace OG := OwnH.chg OG hch (by omega)
  have hs7 := hch.size
  replace L := below_chg L hch (by omega) L.size
  clear hch
  clear OXx ho
  have c0x := Row.cell Rx 0
  have c1x := Row.cell Rx 1
  have c2x := Row.cell Rx 2
  have ltx := Row.lt Rx
  have c0W := Row.cell RW 0
  have c1W := Row.cell RW 1
  have c2W := Row.cell RW 2
  have ltW := Row.lt RW
  have c0Xx := Row.cell RXx 0
  have c1Xx := Row.cell RXx 1
  have c2Xx := Row.cell RXx 2
  have ltXx := Row.lt RXx
  have c0G := Row.cell RG 0
  have c1G := Row.cell RG 1
  have c2G := Row.cell RG 2
  have ltG := Row.lt RG
  go_wp2_with fail
  clear c0x c1x c2x ltx c0W c1W c2W ltW c0Xx c1Xx c2Xx ltXx c0G c1G c2G ltG
  refine (c_eqHeap (.slice paG gf qaG) (.slice pbG gl qbG) (.slice pcG gr qcG) (.slice paW gf qaW) (.slice pbW gl qbW) (.slice pcW gr qcW) gh _ OG.reads OW.reads HRS.out).mono ?_
  rintro e w2e ⟨rfl, hb⟩
  replace Rx := Row.below Rx hb
  replace RW := Row.below RW hb
  replace RXx := Row.below RXx hb
  replace RG := Row.below RG hb
  replace OW := OwnH.below OW hb
  replace OG := OwnH.below OG hb
  have hs8 := hb.size
  try simp only [World.size_alloc] at hs8
  replace L := bst L hb L.size
  clear hb
  have c0x := Row.cell Rx 0
  have c1x := Row.cell Rx 1
  have c2x := Row.cell Rx 2
  have ltx := Row.lt Rx
  have c0W := Row.cell RW 0
  have c1W := Row.cell RW 1
  have c2W := Row.cell RW 2
  have ltW := Row.lt RW
  have c0Xx := Row.cell RXx 0
  have c1Xx := Row.cell RXx 1
  have c2Xx := Row.cell RXx 2
  have ltXx := Row.lt RXx
  have c0G := Row.cell RG 0
  have c1G := Row.cell RG 1
  have c2G := Row.cell RG 2
  have ltG := Row.lt RG
  go_wp2_with fail
  clear c0x c1x c2x ltx c0W c1W c2W ltW c0Xx c1Xx c2Xx ltXx c0G c1G c2G ltG
  refine (c_markHeap _ _ (.slice paG gf qaG) (.slice pbG gl qbG) (.slice pcG gr qcG) gh (1) _ OG (by omega) (by rw [HSMg.out]; have := HRZ.out.1; omega) (by rw [HNgf.out]; have := HRZ.out.2; omega) (by omega)).mono ?_
  rintro e wmG ⟨rfl, ho, hch⟩
  rw [HSMg.out]
  replace Rx := Row.chg Rx hch (by omega)
  replace RW := Row.chg RW hch (by omega)
  replace RXx := Row.chg RXx hch (by omega)
  replace RG := Row.chg RG hch (by omega)
  replace OW := OwnH.chg OW hch (by omega)
  have hs9 := hch.size
  replace L := below_chg L hch (by omega) L.size
  clear hch
  replace OG := ho
  clear ho
  have c0x := Row.cell Rx 0
  have c1x := Row.cell Rx 1
  have c2x := Row.cell Rx 2
  have ltx := Row.lt Rx
  have c0W := Row.cell RW 0
  have c1W := Row.cell RW 1
  have c2W := Row.cell RW 2
  have ltW := Row.lt RW
  have c0Xx := Row.cell RXx 0
  have c1Xx := Row.cell RXx 1
  have c2Xx := Row.cell RXx 2
  have ltXx := Row.lt RXx
  have c0G := Row.cell RG 0
  have c1G := Row.cell RG 1
  have c2G := Row.cell RG 2
  have ltG := Row.lt RG
  go_wp2_with fail
  clear c0x c1x c2x ltx c0W c1W c2W ltW c0Xx c1Xx c2Xx ltXx c0G c1G c2G ltG
  refine (c_heldHeap (.slice paG gf qaG) (.slice pbG gl qbG) (.slice pcG gr qcG) gh 1 _ OG.reads (by omega) (by rw [HSMg.out]; have := HRZ.out.1; omega) (by rw [HNgf.out]; have := HRZ.out.2; omega)).mono ?_
  rintro e wh1 ⟨rfl, hb⟩
  rw [HSMg.out]
  replace Rx := Row.below Rx hb
  replace RW := Row.below RW hb
  replace RXx := Row.below RXx hb
  replace RG := Row.below RG hb
  replace OW := OwnH.below OW hb
  replace OG := OwnH.below OG hb
  have hs10 := hb.size
  try simp only [World.size_alloc] at hs10
  replace L := bst L hb L.size
  clear hb
  have c0x := Row.cell Rx 0
  have c1x := Row.cell Rx 1
  have c2x := Row.cell Rx 2
  have ltx := Row.lt Rx
  have c0W := Row.cell RW 0
  have c1W := Row.cell RW 1
  have c2W := Row.cell RW 2
  have ltW := Row.lt RW
  have c0Xx := Row.cell RXx 0
  have c1Xx := Row.cell RXx 1
  have c2Xx := Row.cell RXx 2
  have ltXx := Row.lt RXx
  have c0G := Row.cell RG 0
  have c1G := Row.cell RG 1
  have c2G := Row.cell RG 2
  have ltG := Row.lt RG
  go_wp2_with fail
  clear c0x c1x c2x ltx c0W c1W c2W ltW c0Xx c1Xx c2Xx ltXx c0G c1G c2G ltG
  refine (c_toHeap (.slice paAx nfx qaAx) (.slice pbAx nlx qbAx) (.slice pcAx nrx qcAx) hx _ (HeapAt.below HZx.out L) HMx.out).mono ?_
  rintro e wtx1 ⟨atx, btx, ctx, rfl, ho, hb⟩
  try simp only [World.size_alloc] at ho
  have hsh := ho.shapes
  simp only [HNnfx.out, HNnlx.out, HNnrx.out] at hsh
  obtain ⟨⟨patx, qatx, rfl⟩, ⟨pbtx, qbtx, rfl⟩, ⟨pctx, qctx, rfl⟩⟩ := hsh
  replace Rx := Row.below Rx hb
  replace RW := Row.below RW hb
  replace RXx := Row.below RXx hb
  replace RG := Row.below RG hb
  replace OW := OwnH.below OW hb
  replace OG := OwnH.below OG hb
  have hs11 := hb.size
  try simp only [World.size_alloc] at hs11
  replace L := bst L hb L.size
  clear hb
  have Otx := ho
  clear ho
  have c0x := Row.cell Rx 0
  have c1x := Row.cell Rx 1
  have c2x := Row.cell Rx 2
  have ltx := Row.lt Rx
  have c0W := Row.cell RW 0
  have c1W := Row.cell RW 1
  have c2W := Row.cell RW 2
  have ltW := Row.lt RW
  have c0Xx := Row.cell RXx 0
  have c1Xx := Row.cell RXx 1
  have c2Xx := Row.cell RXx 2
  have ltXx := Row.lt RXx
  have c0G := Row.cell RG 0
  have c1G := Row.cell RG 1
  have c2G := Row.cell RG 2
  have ltG := Row.lt RG
  go_wp2_with fail
  clear c0x c1x c2x ltx c0W c1W c2W ltW c0Xx c1Xx c2Xx ltXx c0G c1G c2G ltG
  refine (HI.out _ (.slice patx nfx qatx) (.slice pbtx nlx qbtx) (.slice pctx nrx qctx) Otx.reads).mono ?_
  rintro e wH ⟨aH, bH, cH, rfl, ho, hb⟩
  try simp only [World.size_alloc] at ho
  have hsh := ho.shapes
  simp only [HNgf.out, HNgl.out, HNgr.out] at hsh
  obtain ⟨⟨paH, qaH, rfl⟩, ⟨pbH, qbH, rfl⟩, ⟨pcH, qcH, rfl⟩⟩ := hsh
  replace Rx := Row.below Rx hb
  replace RW := Row.below RW hb
  replace RXx := Row.below RXx hb
  replace RG := Row.below RG hb
  replace OW := OwnH.below OW hb
  replace OG := OwnH.below OG hb
  replace Otx := OwnH.below Otx hb
  have hs12 := hb.size
  try simp only [World.size_alloc] at hs12
  replace L := bst L hb L.size
  clear hb
  have OH := ho
  clear ho
  clear Otx
  have c0x := Row.cell Rx 0
  have c1x := Row.cell Rx 1
  have c2x := Row.cell Rx 2
  have ltx := Row.lt Rx
  have c0W := Row.cell RW 0
  have c1W := Row.cell RW 1
  have c2W := Row.cell RW 2
  have ltW := Row.lt RW
  have c0Xx := Row.cell RXx 0
  have c1Xx := Row.cell RXx 1
  have c2Xx := Row.cell RXx 2
  have ltXx := Row.lt RXx
  have c0G := Row.cell RG 0
  have c1G := Row.cell RG 1
  have c2G := Row.cell RG 2
  have ltG := Row.lt RG
  go_wp2_with fail
  clear c0x c1x c2x ltx c0W c1W c2W ltW c0Xx c1Xx c2Xx ltXx c0G c1G c2G ltG
  replace Rx := Row.alloc Rx (.cells (c3 (.slice paH gf qaH) (.slice pbH gl qbH) (.slice pcH gr qcH)) 30)
  replace RW := Row.alloc RW (.cells (c3 (.slice paH gf qaH) (.slice pbH gl qbH) (.slice pcH gr qcH)) 30)
  replace RXx := Row.alloc RXx (.cells (c3 (.slice paH gf qaH) (.slice pbH gl qbH) (.slice pcH gr qcH)) 30)
  replace RG := Row.alloc RG (.cells (c3 (.slice paH gf qaH) (.slice pbH gl qbH) (.slice pcH gr qcH)) 30)
  have RH := Row.new wH 30 (c3 (.slice paH gf qaH) (.slice pbH gl qbH) (.slice pcH gr qcH))
  replace OW := OwnH.below OW (below1 _ (.cells (c3 (.slice paH gf qaH) (.slice pbH gl qbH) (.slice pcH gr qcH)) 30))
  replace OG := OwnH.below OG (below1 _ (.cells (c3 (.slice paH gf qaH) (.slice pbH gl qbH) (.slice pcH gr qcH)) 30))
  replace OH := OwnH.below OH (below1 _ (.cells (c3 (.slice paH gf qaH) (.slice pbH gl qbH) (.slice pcH gr qcH)) 30))
  replace L := Below.alloc L L.size (.cells (c3 (.slice paH gf qaH) (.slice pbH gl qbH) (.slice pcH gr qcH)) 30)
  refine (c_eqHeap (.slice paH gf qaH) (.slice pbH gl qbH) (.slice pcH gr qcH) (.slice paW gf qaW) (.slice pbW gl qbW) (.slice pcW gr qcW) gh _ OH.reads OW.reads HRS.out).mono ?_
  rintro e w3e ⟨rfl, hb⟩
  replace Rx := Row.below Rx hb
  replace RW := Row.below RW hb
  replace RXx := Row.below RXx hb
  replace RG := Row.below RG hb
  replace RH := Row.below RH hb
  replace OW := OwnH.below OW hb
  replace OG := OwnH.below OG hb
  replace OH := OwnH.below OH hb
  have hs13 := hb.size
  try simp only [World.size_alloc] at hs13
  replace L := bst L hb L.size
  clear hb
  have c0x := Row.cell Rx 0
  have c1x := Row.cell Rx 1
  have c2x := Row.cell Rx 2
  have ltx := Row.lt Rx
  have c0W := Row.cell RW 0
  have c1W := Row.cell RW 1
  have c2W := Row.cell RW 2
  have ltW := Row.lt RW
  have c0Xx := Row.cell RXx 0
  have c1Xx := Row.cell RXx 1
  have c2Xx := Row.cell RXx 2
  have ltXx := Row.lt RXx
  have c0G := Row.cell RG 0
  have c1G := Row.cell RG 1
  have c2G := Row.cell RG 2
  have ltG := Row.lt RG
  have c0H := Row.cell RH 0
  have c1H := Row.cell RH 1
  have c2H := Row.cell RH 2
  have ltH := Row.lt RH
  go_wp2_with fail
  clear c0x c1x c2x ltx c0W c1W c2W ltW c0Xx c1Xx c2Xx ltXx c0G c1G c2G ltG c0H c1H c2H ltH
  refine (c_heldHeap (.slice paG gf qaG) (.slice pbG gl qbG) (.slice pcG gr qcG) gh 1 _ OG.reads (by omega) (by rw [HSMg.out]; have := HRZ.out.1; omega) (by rw [HNgf.out]; have := HRZ.out.2; omega)).mono ?_
  rintro e wh2 ⟨rfl, hb⟩
  rw [HSMg.out]
  replace Rx := Row.below Rx hb
  replace RW := Row.below RW hb
  replace RXx := Row.below RXx hb
  replace RG := Row.below RG hb
  replace RH := Row.below RH hb
  replace OW := OwnH.below OW hb
  replace OG := OwnH.below OG hb
  replace OH := OwnH.below OH hb
  have hs14 := hb.size
  try simp only [World.size_alloc] at hs14
  replace L := bst L hb L.size
  clear hb
  have c0x := Row.cell Rx 0
  have c1x := Row.cell Rx 1
  have c2x := Row.cell Rx 2
  have ltx := Row.lt Rx
  have c0W := Row.cell RW 0
  have c1W := Row.cell RW 1
  have c2W := Row.cell RW 2
  have ltW := Row.lt RW
  have c0Xx := Row.cell RXx 0
  have c1Xx := Row.cell RXx 1
  have c2Xx := Row.cell RXx 2
  have ltXx := Row.lt RXx
  have c0G := Row.cell RG 0
  have c1G := Row.cell RG 1
  have c2G := Row.cell RG 2
  have ltG := Row.lt RG
  have c0H := Row.cell RH 0
  have c1H := Row.cell RH 1
  have c2H := Row.cell RH 2
  have ltH := Row.lt RH
  go_wp2
  go_ret
  exact ⟨rfl, L⟩
set_option maxHeartbeats 1600000 in
set_option maxRecDepth 100000 in
theorem walk_FnExactCleanHeap (ax bx cx : Value) (hx : H) (w : World) (hzx : HeapAt w ax bx cx hx) (hfx : FitH hx) : Calls Try.prog 5 #[hv ax bx cx] w fun e w' => e = .returned (.bool true) ∧ Below w.heap.size w w' := by
  by_cases hm : wtH hx ≤ 1048576
  · exact core_FnExactCleanHeap ax bx cx hx (cleanP hx).1 ((cleanP hx).2 : Int) (good hx) w hzx hm (clean_wt hx) (fun w a b c h => s_CleanHeap a b c hx w h) (fun w a b c h => c_CleanHeap a b c hx w h)
  · have HB0 := Lib.hid (below1 w (.cells (c3 ax bx cx) 26))
    have HA0 := Lib.hid (hzx.below HB0.out)
    have HF := Lib.hid hfx
    have HMM : Hid ((1048576 : Int) < (wtH hx : Int)) := by unfold Hid; omega
    obtain ⟨paA, qaA, rfl⟩ := hzx.f.shape
    obtain ⟨pbA, qbA, rfl⟩ := hzx.l.shape
    obtain ⟨pcA, qcA, rfl⟩ := hzx.r.shape
    have HC := Lib.hid (c_szHeap_no _ _ _ hx 1048576 _ HA0.out HF.out (by omega) (by omega) HMM.out)
    clear hzx HA0 hfx HF HMM hm
    generalize hx.f.length = nf at *
    generalize hx.l.length = nl at *
    generalize hx.r.length = nr at *
    go_enter Try.func5, Try.ntmps5
    go_wp2_with fail
    refine HC.out.mono ?_
    rintro e w1 ⟨rfl, hb1⟩
    have HB1 := Lib.hid (bst HB0.out hb1 HB0.out.size)
    clear hb1 HC
    go_wp2
    go_ret
    exact ⟨rfl, HB1.out⟩
end Go.Proofs.Ytkkigoamphkalaa
namespace Go.Proofs.Ytkkigoamphkalaa.xCleanHeap
open Go.ChangeShapes Go.WideShapes Go.ChangeAt Go.RowKit

set_option maxRecDepth 100000 in
theorem contract (H : Type) (enc : TypeId × Value → H) (W : World) (base : Nat) (args : Array Value) (ds gs : List (DataW H)) (before : List MemPlace)
    (hval : ∀ (j : Nat) t v, Try.f5.params[j]? = some t → args[j]? = some v → Value.okWide Try.prog W .any base t v)
    (hW : DataW.Whole enc Try.prog Try.f5.params.toList Rows.fnExactCleanHeapSpec.vars false W args.toList ds gs before) :
    Calls Try.prog 5 args W fun e W' => ∃ v, e = .returned v ∧ Rows.fnExactCleanHeapSpec.post enc Try.prog Try.f5 false true false false W args v W' := by
  have hW' := hW
  obtain ⟨p, q, hA0, hV, rfl, hfz, hnd⟩ := hW
  have hA : DataW.TrodAll enc Try.prog W 0 (fun _ => true) true Try.f5.params.toList args.toList ds p := hA0
  have hpar : ∀ t ∈ Try.f5.params.toList, Try.prog.readableRec t = true ∧ t < Try.prog.types.size := by
    rw [Try.params5]; intro t ht; simp at ht; subst ht; exact r_heap
  rw [Try.params5] at hA hval
  obtain ⟨v0, vs0, d0, ds0, p0, q0, hargs, rfl, rfl, h0, r0⟩ := trodAll_cons hA
  obtain ⟨rfl, rfl, rfl⟩ := trodAll_nil r0
  obtain rfl : args = #[v0] := by cases args; simp_all
  obtain ⟨rfl, rfl⟩ := trodVars_none hV
  obtain ⟨fa0, fb0, fc0, z0, rfl, hz0, hn0⟩ := heap_of_arg (hval 0 26 v0 rfl rfl) h0
  refine (walk_FnExactCleanHeap fa0 fb0 fc0 z0 W hz0 hn0).mono fun e W' ⟨he, hb⟩ => ?_
  subst he
  exact ⟨_, rfl, law_post laidOut hpar (fun n hn => by cases hn) hW' hb rfl (by kernel_rfl) Try.underlying4⟩

set_option maxRecDepth 100000 in
theorem lifted (os : Os) (started : os.Started) (H : Type) (enc : TypeId × Value → H) :
    ReturnsInHanded {} Try.checked os 5 .any (Rows.fnExactCleanHeapSpec.pre6 enc Try.prog Try.f5 Rows.fnExactCleanHeapRow.domain false) (Rows.fnExactCleanHeapSpec.post enc Try.prog Try.f5 false true false false) := by
  refine returnsInHanded_of_change (C := Try.checked) own started (by kernel_rfl) Try.func5
    (ChangeSpec.witness6 (enc := enc) (C := Try.checked) false ⟨#[], #[.agg #[.slice none 0 0, .slice none 0 0, .slice none 0 0]], []⟩ 8 (by kernel_rfl) (by kernel_rfl) (by kernel_rfl) (by kernel_rfl)) ?_
  intro W base args ds gs before hval hW _ _
  exact contract H enc W base args ds gs before hval hW
end Go.Proofs.Ytkkigoamphkalaa.xCleanHeap
namespace Go.Proofs.Ytkkigoamphkalaa
theorem xCleanHeap_said : Rows.FnExactCleanHeapSaid :=
  OpenClaim.holds_of_wide 5 Try.f5 rfl rfl rfl rfl rfl rfl rfl ⟨rfl, rfl, rfl, rfl, rfl⟩ rfl rfl rfl rfl rfl (by kernel_rfl) Try.func5 (by kernel_rfl)
    (of_decide_eq_true (by kernel_rfl)) (by unfold Func.isWrapper; first | (rw [if_pos (by decide +kernel)]; kernel_rfl) | (rw [if_neg (by decide +kernel)]; exact ⟨rfl, rfl⟩))
    (fun os started H enc _ => xCleanHeap.lifted os started H enc)
end Go.Proofs.Ytkkigoamphkalaa
