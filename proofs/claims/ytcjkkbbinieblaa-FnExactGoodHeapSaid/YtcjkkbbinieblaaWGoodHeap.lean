/- The walk of laws.FnExactGoodHeap. -/
import Derived.Test.YtcjkkbbinieblaaHl5
import Derived.Test.YtcjkkbbinieblaaHw3
import Derived.Test.YtcjkkbbinieblaaHs2
import Derived.Test.YtcjkkbbinieblaaHe1
namespace Go.Proofs.Ytcjkkbbinieblaa
open Go.RowKit Ph

set_option maxHeartbeats 12800000 in
set_option maxRecDepth 100000 in
theorem core_FnExactGoodHeap (ax bx cx : Value) (hx : H) (bb : Bool) (w : World) (hzx : HeapAt w ax bx cx hx) (hm : wtH hx ≤ 1048576)
    (hS : ∀ (w : World) (ax bx cx : Value), HeapAt w ax bx cx hx → Calls Try.prog 37 #[hv ax bx cx] w (fun e w' => e = .returned (.bool bb) ∧ Below w.heap.size w w'))
    (hI : ∀ (w : World) (ax bx cx : Value), HeapAt w ax bx cx hx → Calls Try.prog 20 #[hv ax bx cx] w (fun e w' => e = .returned (.bool bb) ∧ Below w.heap.size w w')) :
    Calls Try.prog 5 #[hv ax bx cx] w fun e w' => e = .returned (.bool true) ∧ Below w.heap.size w w' := by
  have HZx := Lib.hid hzx
  have HS := Lib.hid hS; have HI := Lib.hid hI
  clear hS hI
  obtain ⟨paAx, qaAx, rfl⟩ := hzx.f.shape
  obtain ⟨pbAx, qbAx, rfl⟩ := hzx.l.shape
  obtain ⟨pcAx, qcAx, rfl⟩ := hzx.r.shape
  clear hzx
  have HSZx : Hid (szM hx ≤ 1048576 ∧ hx.f.length ≤ 1048576) := by unfold Hid szM; have := hm; unfold wtH wt at this; omega
  generalize hwtx : wtH hx = wtx at *
  have HWTx := Lib.hid hwtx; clear hwtx
  generalize hnnfx : hx.f.length = nfx at *
  have HNnfx := Lib.hid hnnfx; clear hnnfx
  generalize hnnlx : hx.l.length = nlx at *
  have HNnlx := Lib.hid hnnlx; clear hnnlx
  generalize hnnrx : hx.r.length = nrx at *
  have HNnrx := Lib.hid hnnrx; clear hnnrx
  generalize hszx : szM hx = szx at *
  have HSMx := Lib.hid hszx; clear hszx
  have HMx : Hid (wtH hx ≤ 1048576) := by unfold Hid; rw [HWTx.out]; omega
  have hl0x : ¬ ((1048576 : Int) - (wtx : Int)) < 0 := by omega
  have e1 : (bb != bb) = false := by simp
  have L := below1 w (.cells (c3 (.slice paAx nfx qaAx) (.slice pbAx nlx qbAx) (.slice pcAx nrx qcAx)) 54)
  have Rx : Row _ w.heap.size 54 (c3 (.slice paAx nfx qaAx) (.slice pbAx nlx qbAx) (.slice pcAx nrx qcAx)) := Row.new w _ _
  go_enter Try.func5, Try.ntmps5
  go_wp2_with fail
  refine (c_szHeap_yes (.slice paAx nfx qaAx) (.slice pbAx nlx qbAx) (.slice pcAx nrx qcAx) hx (1048576) _ (HeapAt.below HZx.out L) (by omega) (by rw [HWTx.out]; omega)).mono ?_
  rintro e wsx ⟨rfl, hb⟩
  rw [HWTx.out]
  replace Rx := Row.below Rx hb
  have hs0 := hb.size
  try simp only [World.size_alloc] at hs0
  replace L := bst L hb L.size
  clear hb
  have c0x := Row.cell Rx 0
  have c1x := Row.cell Rx 1
  have c2x := Row.cell Rx 2
  have ltx := Row.lt Rx
  go_wp2_with fail
  clear c0x c1x c2x ltx
  refine (c_toHeap (.slice paAx nfx qaAx) (.slice pbAx nlx qbAx) (.slice pcAx nrx qcAx) hx _ (HeapAt.below HZx.out L) HMx.out).mono ?_
  rintro e wsx1 ⟨asx, bsx, csx, rfl, ho, hb⟩
  try simp only [World.size_alloc] at ho
  have hsh := ho.shapes
  simp only [HNnfx.out, HNnlx.out, HNnrx.out] at hsh
  obtain ⟨⟨pasx, qasx, rfl⟩, ⟨pbsx, qbsx, rfl⟩, ⟨pcsx, qcsx, rfl⟩⟩ := hsh
  replace Rx := Row.below Rx hb
  have hs1 := hb.size
  try simp only [World.size_alloc] at hs1
  replace L := bst L hb L.size
  clear hb
  have Osx := ho
  clear ho
  have c0x := Row.cell Rx 0
  have c1x := Row.cell Rx 1
  have c2x := Row.cell Rx 2
  have ltx := Row.lt Rx
  go_wp2_with fail
  clear c0x c1x c2x ltx
  refine (HS.out _ (.slice pasx nfx qasx) (.slice pbsx nlx qbsx) (.slice pcsx nrx qcsx) Osx.reads).mono ?_
  rintro e wW ⟨rfl, hb⟩
  replace Rx := Row.below Rx hb
  replace Osx := OwnH.below Osx hb
  have hs2 := hb.size
  try simp only [World.size_alloc] at hs2
  replace L := bst L hb L.size
  clear hb
  clear Osx
  have c0x := Row.cell Rx 0
  have c1x := Row.cell Rx 1
  have c2x := Row.cell Rx 2
  have ltx := Row.lt Rx
  go_wp2_with fail
  clear c0x c1x c2x ltx
  refine (c_toHeap (.slice paAx nfx qaAx) (.slice pbAx nlx qbAx) (.slice pcAx nrx qcAx) hx _ (HeapAt.below HZx.out L) HMx.out).mono ?_
  rintro e wXx ⟨aXx, bXx, cXx, rfl, ho, hb⟩
  try simp only [World.size_alloc] at ho
  have hsh := ho.shapes
  simp only [HNnfx.out, HNnlx.out, HNnrx.out] at hsh
  obtain ⟨⟨paXx, qaXx, rfl⟩, ⟨pbXx, qbXx, rfl⟩, ⟨pcXx, qcXx, rfl⟩⟩ := hsh
  replace Rx := Row.below Rx hb
  have hs3 := hb.size
  try simp only [World.size_alloc] at hs3
  replace L := bst L hb L.size
  clear hb
  have OXx := ho
  clear ho
  have c0x := Row.cell Rx 0
  have c1x := Row.cell Rx 1
  have c2x := Row.cell Rx 2
  have ltx := Row.lt Rx
  go_wp2_with fail
  clear c0x c1x c2x ltx
  replace Rx := Row.alloc Rx (.cells (c3 (.slice paXx nfx qaXx) (.slice pbXx nlx qbXx) (.slice pcXx nrx qcXx)) 27)
  have RXx := Row.new wXx 27 (c3 (.slice paXx nfx qaXx) (.slice pbXx nlx qbXx) (.slice pcXx nrx qcXx))
  replace OXx := OwnH.below OXx (below1 _ (.cells (c3 (.slice paXx nfx qaXx) (.slice pbXx nlx qbXx) (.slice pcXx nrx qcXx)) 27))
  replace L := Below.alloc L L.size (.cells (c3 (.slice paXx nfx qaXx) (.slice pbXx nlx qbXx) (.slice pcXx nrx qcXx)) 27)
  refine (HI.out _ (.slice paXx nfx qaXx) (.slice pbXx nlx qbXx) (.slice pcXx nrx qcXx) OXx.reads).mono ?_
  rintro e wG ⟨rfl, hb⟩
  replace Rx := Row.below Rx hb
  replace RXx := Row.below RXx hb
  replace OXx := OwnH.below OXx hb
  have hs4 := hb.size
  try simp only [World.size_alloc] at hs4
  replace L := bst L hb L.size
  clear hb
  have c0x := Row.cell Rx 0
  have c1x := Row.cell Rx 1
  have c2x := Row.cell Rx 2
  have ltx := Row.lt Rx
  have c0Xx := Row.cell RXx 0
  have c1Xx := Row.cell RXx 1
  have c2Xx := Row.cell RXx 2
  have ltXx := Row.lt RXx
  go_wp2_with fail
  have RR0 : wG.drew.cell? ⟨w.heap.size, 0, none⟩ = some (.slice paAx nfx qaAx) := Row.cell Rx 0
  have RR1 : wG.drew.cell? ⟨w.heap.size, 1, none⟩ = some (.slice pbAx nlx qbAx) := Row.cell Rx 1
  have RR2 : wG.drew.cell? ⟨w.heap.size, 2, none⟩ = some (.slice pcAx nrx qcAx) := Row.cell Rx 2
  have RX0 : wG.drew.cell? ⟨wXx.heap.size, 0, none⟩ = some (.slice paXx nfx qaXx) := Row.cell RXx 0
  have RX1 : wG.drew.cell? ⟨wXx.heap.size, 1, none⟩ = some (.slice pbXx nlx qbXx) := Row.cell RXx 1
  have RX2 : wG.drew.cell? ⟨wXx.heap.size, 2, none⟩ = some (.slice pcXx nrx qcXx) := Row.cell RXx 2
  have BD := below_drew (Below.refl wG.heap.size wG)
  have IZ := Lib.hid (HeapAt.below HZx.out (below_drew L))
  have IX := Lib.hid (OXx.reads.below BD)
  clear c0x c1x c2x ltx c0Xx c1Xx c2Xx ltXx
  go_region_held3 (fun w' => w'.cell? ⟨w.heap.size, 0, none⟩ = some (.slice paAx nfx qaAx) ∧ w'.cell? ⟨w.heap.size, 1, none⟩ = some (.slice pbAx nlx qbAx) ∧ w'.cell? ⟨w.heap.size, 2, none⟩ = some (.slice pcAx nrx qcAx) ∧ w'.cell? ⟨wXx.heap.size, 0, none⟩ = some (.slice paXx nfx qaXx) ∧ w'.cell? ⟨wXx.heap.size, 1, none⟩ = some (.slice pbXx nlx qbXx) ∧ w'.cell? ⟨wXx.heap.size, 2, none⟩ = some (.slice pcXx nrx qcXx) ∧ Below wG.heap.size wG w')
    (first
      | (with_reducible exact ⟨RR0, RR1, RR2, RX0, RX1, RX2, BD⟩)
      | (go_split_ands
         exact ⟨cellBelow hbk (Nat.le_refl _) (by assumption), cellBelow hbk (Nat.le_refl _) (by assumption), cellBelow hbk (Nat.le_refl _) (by assumption), cellBelow hbk (Nat.le_refl _) (by assumption), cellBelow hbk (Nat.le_refl _) (by assumption), cellBelow hbk (Nat.le_refl _) (by assumption), bst (by assumption) hbk (Below.size (by assumption))⟩)
      | (go_split_ands; refine ⟨?_, ?_, ?_, ?_, ?_, ?_, ?_⟩ <;> assumption))
    (first
      | (go_at_call 38; refine (c_toHeap (.slice paAx nfx qaAx) (.slice pbAx nlx qbAx) (.slice pcAx nrx qcAx) hx _ IZ.out HMx.out).mono ?_; rintro e wxd1 ⟨aD, bD, cD, rfl, hoD, hbk⟩; have OD := Lib.hid hoD.reads; have XD := Lib.hid (IX.out.below hbk); clear hoD)
      | (go_at_call 39; refine (c_eqHeap _ _ _ _ _ _ hx _ XD.out OD.out HMx.out).mono ?_; rintro e wxd2 ⟨rfl, hbk⟩))
  have hb : Below wG.heap.size wG wxd2 := by go_split_ands; assumption
  clear OD XD IZ IX RR0 RX0 RR1 RX1 RR2 RX2 BD
  replace Rx := Row.below Rx hb
  replace RXx := Row.below RXx hb
  replace OXx := OwnH.below OXx hb
  have hs5 := hb.size
  try simp only [World.size_alloc] at hs5
  replace L := bst L hb L.size
  clear hb
  have c0x := Row.cell Rx 0
  have c1x := Row.cell Rx 1
  have c2x := Row.cell Rx 2
  have ltx := Row.lt Rx
  have c0Xx := Row.cell RXx 0
  have c1Xx := Row.cell RXx 1
  have c2Xx := Row.cell RXx 2
  have ltXx := Row.lt RXx
  go_wp2
  go_ret
  exact ⟨rfl, L⟩
set_option maxHeartbeats 1600000 in
set_option maxRecDepth 100000 in
theorem walk_FnExactGoodHeap (ax bx cx : Value) (hx : H) (w : World) (hzx : HeapAt w ax bx cx hx) (hfx : FitH hx) : Calls Try.prog 5 #[hv ax bx cx] w fun e w' => e = .returned (.bool true) ∧ Below w.heap.size w w' := by
  by_cases hm : wtH hx ≤ 1048576
  · exact core_FnExactGoodHeap ax bx cx hx (good hx) w hzx hm (fun w a b c h => s_GoodHeap a b c hx w h) (fun w a b c h => c_GoodHeap a b c hx w h)
  · have HB0 := Lib.hid (below1 w (.cells (c3 ax bx cx) 54))
    have HA0 := Lib.hid (hzx.below HB0.out)
    have HF := Lib.hid hfx
    have HMM : Hid ((1048576 : Int) < (wtH hx : Int)) := by unfold Hid; omega
    obtain ⟨paA, qaA, rfl⟩ := hzx.f.shape
    obtain ⟨pbA, qbA, rfl⟩ := hzx.l.shape
    obtain ⟨pcA, qcA, rfl⟩ := hzx.r.shape
    have HC := Lib.hid (c_szHeap_no _ _ _ hx 1048576 _ HA0.out HF.out (by omega) (by omega) HMM.out)
    clear hzx HA0 hfx HF HMM hm
    generalize hx.f.length = nf at *
    generalize hx.l.length = nl at *
    generalize hx.r.length = nr at *
    go_enter Try.func5, Try.ntmps5
    go_wp2_with fail
    refine HC.out.mono ?_
    rintro e w1 ⟨rfl, hb1⟩
    have HB1 := Lib.hid (bst HB0.out hb1 HB0.out.size)
    clear hb1 HC
    go_wp2
    go_ret
    exact ⟨rfl, HB1.out⟩
end Go.Proofs.Ytcjkkbbinieblaa
