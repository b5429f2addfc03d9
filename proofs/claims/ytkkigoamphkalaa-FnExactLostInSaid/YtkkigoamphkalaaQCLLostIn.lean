/- laws.FnExactLostIn: for every input the law answers true, and the input reads as it did. No condition. -/
import Derived.Test.YtkkigoamphkalaaQC3
namespace Go.Proofs.Ytkkigoamphkalaa
open Go.RowKit Ph

set_option maxHeartbeats 12800000 in
set_option maxRecDepth 100000 in
theorem core_FnExactLostIn (ax bx cx : Value) (hx : H) (vy : Value) (zy : List Int) (gs : List Int) (ok : Bool) (w : World) (hzx : HeapAt w ax bx cx hx) (hzy : IntsAt w vy zy)  (hm : wtH hx ≤ 1048576) (hly : zy.length ≤ 1048576) (hrs : gs.length ≤ 1000)
    (hS : ∀ (w : World) (ax bx cx : Value) (vy : Value), HeapAt w ax bx cx hx → IntsAt w vy zy → Calls Try.prog 33 #[hv ax bx cx, vy] w (EndI gs ok w))
    (hI : ∀ (w : World) (ax bx cx : Value) (vy : Value), HeapAt w ax bx cx hx → IntsAt w vy zy → Calls Try.prog 34 #[hv ax bx cx, vy] w (EndI gs ok w)) :
    Calls Try.prog 7 #[hv ax bx cx, vy] w fun e w' => e = .returned (.bool true) ∧ Below w.heap.size w w' := by
  have HZx := Lib.hid hzx
  have HZy := Lib.hid hzy
  have HS := Lib.hid hS; have HI := Lib.hid hI
  clear hS hI
  obtain ⟨paAx, qaAx, rfl⟩ := hzx.f.shape
  obtain ⟨pbAx, qbAx, rfl⟩ := hzx.l.shape
  obtain ⟨pcAx, qcAx, rfl⟩ := hzx.r.shape
  obtain ⟨pAy, qAy, rfl⟩ := hzy.shape
  clear hzx
  clear hzy
  have HSZx : Hid (szM hx ≤ 1048576 ∧ hx.f.length ≤ 1048576) := by unfold Hid szM; have := hm; unfold wtH wt at this; omega
  have HLy := Lib.hid hly
  have HRS := Lib.hid hrs
  clear hrs
  generalize hwtx : wtH hx = wtx at *
  have HWTx := Lib.hid hwtx; clear hwtx
  generalize hnnfx : hx.f.length = nfx at *
  have HNnfx := Lib.hid hnnfx; clear hnnfx
  generalize hnnlx : hx.l.length = nlx at *
  have HNnlx := Lib.hid hnnlx; clear hnnlx
  generalize hnnrx : hx.r.length = nrx at *
  have HNnrx := Lib.hid hnnrx; clear hnnrx
  generalize hszx : szM hx = szx at *
  have HSMx := Lib.hid hszx; clear hszx
  have HMx : Hid (wtH hx ≤ 1048576) := by unfold Hid; rw [HWTx.out]; omega
  generalize hny : zy.length = ny at *
  have HNy := Lib.hid hny; clear hny
  have hby : ¬ ((1048576 : Int) < (ny : Int)) := by omega
  generalize hngl : gs.length = gl at *
  have HNgl := Lib.hid hngl; clear hngl
  have hl0x : ¬ ((1048576 : Int) - (wtx : Int)) < 0 := by omega
  have e1 : (ok != ok) = false := by simp
  have L := below1 w (.cells (c3 (.slice paAx nfx qaAx) (.slice pbAx nlx qbAx) (.slice pcAx nrx qcAx)) 26)
  have Rx : Row _ w.heap.size 26 (c3 (.slice paAx nfx qaAx) (.slice pbAx nlx qbAx) (.slice pcAx nrx qcAx)) := Row.new w _ _
  go_enter Try.func7, Try.ntmps7
  go_wp2_with fail
  refine (c_szHeap_yes (.slice paAx nfx qaAx) (.slice pbAx nlx qbAx) (.slice pcAx nrx qcAx) hx (1048576) _ (HeapAt.below HZx.out L) (by omega) (by rw [HWTx.out]; omega)).mono ?_
  rintro e wsx ⟨rfl, hb⟩
  rw [HWTx.out]
  replace Rx := Row.below Rx hb
  have hs0 := hb.size
  try simp only [World.size_alloc] at hs0
  replace L := bst L hb L.size
  clear hb
  have c0x := Row.cell Rx 0
  have c1x := Row.cell Rx 1
  have c2x := Row.cell Rx 2
  have ltx := Row.lt Rx
  go_wp2_with fail
  clear c0x c1x c2x ltx
  refine (c_toHeap (.slice paAx nfx qaAx) (.slice pbAx nlx qbAx) (.slice pcAx nrx qcAx) hx _ (HeapAt.below HZx.out L) HMx.out).mono ?_
  rintro e wsx1 ⟨asx, bsx, csx, rfl, ho, hb⟩
  try simp only [World.size_alloc] at ho
  have hsh := ho.shapes
  simp only [HNnfx.out, HNnlx.out, HNnrx.out] at hsh
  obtain ⟨⟨pasx, qasx, rfl⟩, ⟨pbsx, qbsx, rfl⟩, ⟨pcsx, qcsx, rfl⟩⟩ := hsh
  replace Rx := Row.below Rx hb
  have hs1 := hb.size
  try simp only [World.size_alloc] at hs1
  replace L := bst L hb L.size
  clear hb
  have Osx := ho
  clear ho
  have c0x := Row.cell Rx 0
  have c1x := Row.cell Rx 1
  have c2x := Row.cell Rx 2
  have ltx := Row.lt Rx
  go_wp2_with fail
  clear c0x c1x c2x ltx
  refine (c_toIntS (.slice pAy ny qAy) zy _ (IntsAt.below HZy.out L) (by rw [HNy.out]; exact HLy.out)).mono ?_
  rintro e wsy1 ⟨csy, rfl, ho1, hb⟩
  have ho := OwnH.ofInts ho1 hb
  clear ho1
  try simp only [World.size_alloc] at ho
  have hsh := ho.shapes
  simp only [HNy.out] at hsh
  obtain ⟨_, _, ⟨pcsy, qcsy, rfl⟩⟩ := hsh
  replace Rx := Row.below Rx hb
  replace Osx := OwnH.below Osx hb
  have hs2 := hb.size
  try simp only [World.size_alloc] at hs2
  replace L := bst L hb L.size
  clear hb
  have Osy := ho
  clear ho
  have c0x := Row.cell Rx 0
  have c1x := Row.cell Rx 1
  have c2x := Row.cell Rx 2
  have ltx := Row.lt Rx
  go_wp2_with fail
  clear c0x c1x c2x ltx
  refine (HS.out _ (.slice pasx nfx qasx) (.slice pbsx nlx qbsx) (.slice pcsx nrx qcsx) (.slice pcsy ny qcsy) Osx.reads Osy.reads.r).mono ?_
  rintro e wW ⟨cW, rfl, ho, hb⟩
  try simp only [World.size_alloc] at ho
  have hsh := ho.shapes
  simp only [HNgl.out] at hsh
  obtain ⟨_, _, ⟨pcW, qcW, rfl⟩⟩ := hsh
  replace Rx := Row.below Rx hb
  replace Osx := OwnH.below Osx hb
  replace Osy := OwnH.below Osy hb
  have hs3 := hb.size
  try simp only [World.size_alloc] at hs3
  replace L := bst L hb L.size
  clear hb
  have OW := ho
  clear ho
  clear Osx
  clear Osy
  have c0x := Row.cell Rx 0
  have c1x := Row.cell Rx 1
  have c2x := Row.cell Rx 2
  have ltx := Row.lt Rx
  go_wp2_with fail
  clear c0x c1x c2x ltx
  refine (c_toHeap (.slice paAx nfx qaAx) (.slice pbAx nlx qbAx) (.slice pcAx nrx qcAx) hx _ (HeapAt.below HZx.out L) HMx.out).mono ?_
  rintro e wXx ⟨aXx, bXx, cXx, rfl, ho, hb⟩
  try simp only [World.size_alloc] at ho
  have hsh := ho.shapes
  simp only [HNnfx.out, HNnlx.out, HNnrx.out] at hsh
  obtain ⟨⟨paXx, qaXx, rfl⟩, ⟨pbXx, qbXx, rfl⟩, ⟨pcXx, qcXx, rfl⟩⟩ := hsh
  replace Rx := Row.below Rx hb
  replace OW := OwnH.below OW hb
  have hs4 := hb.size
  try simp only [World.size_alloc] at hs4
  replace L := bst L hb L.size
  clear hb
  have OXx := ho
  clear ho
  have c0x := Row.cell Rx 0
  have c1x := Row.cell Rx 1
  have c2x := Row.cell Rx 2
  have ltx := Row.lt Rx
  go_wp2_with fail
  clear c0x c1x c2x ltx
  replace Rx := Row.alloc Rx (.cells (c3 (.slice paXx nfx qaXx) (.slice pbXx nlx qbXx) (.slice pcXx nrx qcXx)) 30)
  have RXx := Row.new wXx 30 (c3 (.slice paXx nfx qaXx) (.slice pbXx nlx qbXx) (.slice pcXx nrx qcXx))
  replace OW := OwnH.below OW (below1 _ (.cells (c3 (.slice paXx nfx qaXx) (.slice pbXx nlx qbXx) (.slice pcXx nrx qcXx)) 30))
  replace OXx := OwnH.below OXx (below1 _ (.cells (c3 (.slice paXx nfx qaXx) (.slice pbXx nlx qbXx) (.slice pcXx nrx qcXx)) 30))
  replace L := Below.alloc L L.size (.cells (c3 (.slice paXx nfx qaXx) (.slice pbXx nlx qbXx) (.slice pcXx nrx qcXx)) 30)
  refine (c_toIntS (.slice pAy ny qAy) zy _ (IntsAt.below HZy.out L) (by rw [HNy.out]; exact HLy.out)).mono ?_
  rintro e wXy ⟨cXy, rfl, ho1, hb⟩
  have ho := OwnH.ofInts ho1 hb
  clear ho1
  try simp only [World.size_alloc] at ho
  have hsh := ho.shapes
  simp only [HNy.out] at hsh
  obtain ⟨_, _, ⟨pcXy, qcXy, rfl⟩⟩ := hsh
  replace Rx := Row.below Rx hb
  replace RXx := Row.below RXx hb
  replace OW := OwnH.below OW hb
  replace OXx := OwnH.below OXx hb
  have hs5 := hb.size
  try simp only [World.size_alloc] at hs5
  replace L := bst L hb L.size
  clear hb
  have OXy := ho
  clear ho
  have c0x := Row.cell Rx 0
  have c1x := Row.cell Rx 1
  have c2x := Row.cell Rx 2
  have ltx := Row.lt Rx
  have c0Xx := Row.cell RXx 0
  have c1Xx := Row.cell RXx 1
  have c2Xx := Row.cell RXx 2
  have ltXx := Row.lt RXx
  go_wp2_with fail
  clear c0x c1x c2x ltx c0Xx c1Xx c2Xx ltXx
  refine (HI.out _ (.slice paXx nfx qaXx) (.slice pbXx nlx qbXx) (.slice pcXx nrx qcXx) (.slice pcXy ny qcXy) OXx.reads OXy.reads.r).mono ?_
  rintro e wG ⟨cG, rfl, ho, hb⟩
  try simp only [World.size_alloc] at ho
  have hsh := ho.shapes
  simp only [HNgl.out] at hsh
  obtain ⟨_, _, ⟨pcG, qcG, rfl⟩⟩ := hsh
  replace Rx := Row.below Rx hb
  replace RXx := Row.below RXx hb
  replace OW := OwnH.below OW hb
  replace OXx := OwnH.below OXx hb
  replace OXy := OwnH.below OXy hb
  have hs6 := hb.size
  try simp only [World.size_alloc] at hs6
  replace L := bst L hb L.size
  clear hb
  have OG := ho
  clear ho
  have c0x := Row.cell Rx 0
  have c1x := Row.cell Rx 1
  have c2x := Row.cell Rx 2
  have ltx := Row.lt Rx
  have c0Xx := Row.cell RXx 0
  have c1Xx := Row.cell RXx 1
  have c2Xx := Row.cell RXx 2
  have ltXx := Row.lt RXx
  go_wp2_with fail
  clear c0x c1x c2x ltx c0Xx c1Xx c2Xx ltXx
  refine (c_eqIntS (.slice pcG gl qcG) (.slice pcW gl qcW) gs gs _ OG.reads.r OW.reads.r (by rw [HNgl.out]; have := HRS.out; omega)).mono ?_
  rintro e w1e ⟨hre, nd, hnd⟩
  rw [decide_eq_true rfl] at hre
  subst hre
  have hb : Below wG.heap.size wG w1e := by rw [hnd]; exact below_drewN (Below.refl _ _) nd
  clear hnd nd
  replace Rx := Row.below Rx hb
  replace RXx := Row.below RXx hb
  replace OW := OwnH.below OW hb
  replace OXx := OwnH.below OXx hb
  replace OXy := OwnH.below OXy hb
  replace OG := OwnH.below OG hb
  have hs7 := hb.size
  try simp only [World.size_alloc] at hs7
  replace L := bst L hb L.size
  clear hb
  have c0x := Row.cell Rx 0
  have c1x := Row.cell Rx 1
  have c2x := Row.cell Rx 2
  have ltx := Row.lt Rx
  have c0Xx := Row.cell RXx 0
  have c1Xx := Row.cell RXx 1
  have c2Xx := Row.cell RXx 2
  have ltXx := Row.lt RXx
  go_wp2_with fail
  have RR0 : w1e.drew.cell? ⟨w.heap.size, 0, none⟩ = some (.slice paAx nfx qaAx) := Row.cell Rx 0
  have RR1 : w1e.drew.cell? ⟨w.heap.size, 1, none⟩ = some (.slice pbAx nlx qbAx) := Row.cell Rx 1
  have RR2 : w1e.drew.cell? ⟨w.heap.size, 2, none⟩ = some (.slice pcAx nrx qcAx) := Row.cell Rx 2
  have RX0 : w1e.drew.cell? ⟨wXx.heap.size, 0, none⟩ = some (.slice paXx nfx qaXx) := Row.cell RXx 0
  have RX1 : w1e.drew.cell? ⟨wXx.heap.size, 1, none⟩ = some (.slice pbXx nlx qbXx) := Row.cell RXx 1
  have RX2 : w1e.drew.cell? ⟨wXx.heap.size, 2, none⟩ = some (.slice pcXx nrx qcXx) := Row.cell RXx 2
  have BD := below_drew (Below.refl w1e.heap.size w1e)
  have IZ := Lib.hid (HeapAt.below HZx.out (below_drew L))
  have IX := Lib.hid (OXx.reads.below BD)
  clear c0x c1x c2x ltx c0Xx c1Xx c2Xx ltXx
  go_region_held3 (fun w' => w'.cell? ⟨w.heap.size, 0, none⟩ = some (.slice paAx nfx qaAx) ∧ w'.cell? ⟨w.heap.size, 1, none⟩ = some (.slice pbAx nlx qbAx) ∧ w'.cell? ⟨w.heap.size, 2, none⟩ = some (.slice pcAx nrx qcAx) ∧ w'.cell? ⟨wXx.heap.size, 0, none⟩ = some (.slice paXx nfx qaXx) ∧ w'.cell? ⟨wXx.heap.size, 1, none⟩ = some (.slice pbXx nlx qbXx) ∧ w'.cell? ⟨wXx.heap.size, 2, none⟩ = some (.slice pcXx nrx qcXx) ∧ Below w1e.heap.size w1e w')
    (first
      | (with_reducible exact ⟨RR0, RR1, RR2, RX0, RX1, RX2, BD⟩)
      | (go_split_ands
         exact ⟨cellBelow hbk (Nat.le_refl _) (by assumption), cellBelow hbk (Nat.le_refl _) (by assumption), cellBelow hbk (Nat.le_refl _) (by assumption), cellBelow hbk (Nat.le_refl _) (by assumption), cellBelow hbk (Nat.le_refl _) (by assumption), cellBelow hbk (Nat.le_refl _) (by assumption), bst (by assumption) hbk (Below.size (by assumption))⟩)
      | (go_split_ands; refine ⟨?_, ?_, ?_, ?_, ?_, ?_, ?_⟩ <;> assumption))
    (first
      | (go_at_call 16; refine (c_toHeap (.slice paAx nfx qaAx) (.slice pbAx nlx qbAx) (.slice pcAx nrx qcAx) hx _ IZ.out HMx.out).mono ?_; rintro e wxd1 ⟨aD, bD, cD, rfl, hoD, hbk⟩; have OD := Lib.hid hoD.reads; have XD := Lib.hid (IX.out.below hbk); clear hoD)
      | (go_at_call 19; refine (c_eqHeap _ _ _ _ _ _ hx _ XD.out OD.out HMx.out).mono ?_; rintro e wxd2 ⟨rfl, hbk⟩))
  have hb : Below w1e.heap.size w1e wxd2 := by go_split_ands; assumption
  clear OD XD IZ IX RR0 RX0 RR1 RX1 RR2 RX2 BD
  replace Rx := Row.below Rx hb
  replace RXx := Row.below RXx hb
  replace OW := OwnH.below OW hb
  replace OXx := OwnH.below OXx hb
  replace OXy := OwnH.below OXy hb
  replace OG := OwnH.below OG hb
  have hs8 := hb.size
  try simp only [World.size_alloc] at hs8
  replace L := bst L hb L.size
  clear hb
  have c0x := Row.cell Rx 0
  have c1x := Row.cell Rx 1
  have c2x := Row.cell Rx 2
  have ltx := Row.lt Rx
  have c0Xx := Row.cell RXx 0
  have c1Xx := Row.cell RXx 1
  have c2Xx := Row.cell RXx 2
  have ltXx := Row.lt RXx
  go_wp2_with fail
  clear c0x c1x c2x ltx c0Xx c1Xx c2Xx ltXx
  refine (c_toIntS (.slice pAy ny qAy) zy _ (IntsAt.below HZy.out L) (by rw [HNy.out]; exact HLy.out)).mono ?_
  rintro e wDy ⟨cDy, rfl, ho1, hb⟩
  have ho := OwnH.ofInts ho1 hb
  clear ho1
  try simp only [World.size_alloc] at ho
  have hsh := ho.shapes
  simp only [HNy.out] at hsh
  obtain ⟨_, _, ⟨pcDy, qcDy, rfl⟩⟩ := hsh
  replace Rx := Row.below Rx hb
  replace RXx := Row.below RXx hb
  replace OW := OwnH.below OW hb
  replace OXx := OwnH.below OXx hb
  replace OXy := OwnH.below OXy hb
  replace OG := OwnH.below OG hb
  have hs9 := hb.size
  try simp only [World.size_alloc] at hs9
  replace L := bst L hb L.size
  clear hb
  have ODy := ho
  clear ho
  have c0x := Row.cell Rx 0
  have c1x := Row.cell Rx 1
  have c2x := Row.cell Rx 2
  have ltx := Row.lt Rx
  have c0Xx := Row.cell RXx 0
  have c1Xx := Row.cell RXx 1
  have c2Xx := Row.cell RXx 2
  have ltXx := Row.lt RXx
  go_wp2_with fail
  clear c0x c1x c2x ltx c0Xx c1Xx c2Xx ltXx
  refine (c_eqIntS (.slice pcXy ny qcXy) (.slice pcDy ny qcDy) zy zy _ OXy.reads.r ODy.reads.r (by rw [HNy.out]; have := HLy.out; omega)).mono ?_
  rintro e wEy ⟨hre, nd, hnd⟩
  rw [decide_eq_true rfl] at hre
  subst hre
  have hb : Below wDy.heap.size wDy wEy := by rw [hnd]; exact below_drewN (Below.refl _ _) nd
  clear hnd nd
  replace Rx := Row.below Rx hb
  replace RXx := Row.below RXx hb
  replace OW := OwnH.below OW hb
  replace OXx := OwnH.below OXx hb
  replace OXy := OwnH.below OXy hb
  replace OG := OwnH.below OG hb
  replace ODy := OwnH.below ODy hb
  have hs10 := hb.size
  try simp only [World.size_alloc] at hs10
  replace L := bst L hb L.size
  clear hb
  clear ODy
  have c0x := Row.cell Rx 0
  have c1x := Row.cell Rx 1
  have c2x := Row.cell Rx 2
  have ltx := Row.lt Rx
  have c0Xx := Row.cell RXx 0
  have c1Xx := Row.cell RXx 1
  have c2Xx := Row.cell RXx 2
  have ltXx := Row.lt RXx
  go_wp2_with fail
  clear c0x c1x c2x ltx c0Xx c1Xx c2Xx ltXx
  refine (c_markHeap _ _ (.slice paXx nfx qaXx) (.slice pbXx nlx qbXx) (.slice pcXx nrx qcXx) hx (1) _ OXx (by omega) (by rw [HSMx.out]; have := HSZx.out.1; omega) (by rw [HNnfx.out]; have := HSZx.out.2; omega) (by omega)).mono ?_
  rintro e wmx ⟨rfl, ho, hch⟩
  rw [HSMx.out]
  replace Rx := Row.chg Rx hch (by omega)
  replace RXx := Row.chg RXx hch (by omega)
  replace OW := OwnH.chg OW hch (by omega)
  replace OXy := OwnH.chg OXy hch (by omega)
  replace OG := OwnH.chg OG hch (by omega)
  have hs11 := hch.size
  replace L := below_chg L hch (by omega) L.size
  clear hch
  clear OXx ho
  have c0x := Row.cell Rx 0
  have c1x := Row.cell Rx 1
  have c2x := Row.cell Rx 2
  have ltx := Row.lt Rx
  have c0Xx := Row.cell RXx 0
  have c1Xx := Row.cell RXx 1
  have c2Xx := Row.cell RXx 2
  have ltXx := Row.lt RXx
  go_wp2_with fail
  clear c0x c1x c2x ltx c0Xx c1Xx c2Xx ltXx
  refine (c_markRoots _ _ _ _ (.slice pcXy ny qcXy) _ (1 + (szx : Int)) _ OXy (by omega) (by simp only [HNy.out]; have := HLy.out; have := HSZx.out.1; omega)).mono ?_
  rintro e wmy ⟨rfl, ho, hch⟩
  simp only [HNy.out] at ho ⊢
  replace Rx := Row.chg Rx hch (by omega)
  replace RXx := Row.chg RXx hch (by omega)
  replace OW := OwnH.chg OW hch (by omega)
  replace OG := OwnH.chg OG hch (by omega)
  have hs12 := hch.size
  replace L := below_chg L hch (by omega) L.size
  clear hch
  clear OXy ho
  have c0x := Row.cell Rx 0
  have c1x := Row.cell Rx 1
  have c2x := Row.cell Rx 2
  have ltx := Row.lt Rx
  have c0Xx := Row.cell RXx 0
  have c1Xx := Row.cell RXx 1
  have c2Xx := Row.cell RXx 2
  have ltXx := Row.lt RXx
  go_wp2_with fail
  clear c0x c1x c2x ltx c0Xx c1Xx c2Xx ltXx
  refine (c_eqIntS (.slice pcG gl qcG) (.slice pcW gl qcW) gs gs _ OG.reads.r OW.reads.r (by rw [HNgl.out]; have := HRS.out; omega)).mono ?_
  rintro e w2e ⟨hre, nd, hnd⟩
  rw [decide_eq_true rfl] at hre
  subst hre
  have hb : Below wmy.heap.size wmy w2e := by rw [hnd]; exact below_drewN (Below.refl _ _) nd
  clear hnd nd
  replace Rx := Row.below Rx hb
  replace RXx := Row.below RXx hb
  replace OW := OwnH.below OW hb
  replace OG := OwnH.below OG hb
  have hs13 := hb.size
  try simp only [World.size_alloc] at hs13
  replace L := bst L hb L.size
  clear hb
  have c0x := Row.cell Rx 0
  have c1x := Row.cell Rx 1
  have c2x := Row.cell Rx 2
  have ltx := Row.lt Rx
  have c0Xx := Row.cell RXx 0
  have c1Xx := Row.cell RXx 1
  have c2Xx := Row.cell RXx 2
  have ltXx := Row.lt RXx
  go_wp2_with fail
  clear c0x c1x c2x ltx c0Xx c1Xx c2Xx ltXx
  refine (c_markRoots _ _ _ _ (.slice pcG gl qcG) _ (1) _ OG (by omega) (by simp only [HNgl.out]; have := HRS.out; omega)).mono ?_
  rintro e wmG ⟨rfl, ho, hch⟩
  simp only [HNgl.out] at ho ⊢
  replace Rx := Row.chg Rx hch (by omega)
  replace RXx := Row.chg RXx hch (by omega)
  replace OW := OwnH.chg OW hch (by omega)
  have hs14 := hch.size
  replace L := below_chg L hch (by omega) L.size
  clear hch
  replace OG := ho
  clear ho
  have c0x := Row.cell Rx 0
  have c1x := Row.cell Rx 1
  have c2x := Row.cell Rx 2
  have ltx := Row.lt Rx
  have c0Xx := Row.cell RXx 0
  have c1Xx := Row.cell RXx 1
  have c2Xx := Row.cell RXx 2
  have ltXx := Row.lt RXx
  go_wp2_with fail
  clear c0x c1x c2x ltx c0Xx c1Xx c2Xx ltXx
  refine (c_heldIntS (.slice pcG gl qcG) gl 1 _ OG.reads.r (by omega) (by have := HRS.out; omega)).mono ?_
  rintro e wh1 ⟨rfl, hw⟩
  have hb : Below wmG.heap.size wmG wh1 := by rw [← hw]; exact Below.refl _ _
  clear hw
  replace Rx := Row.below Rx hb
  replace RXx := Row.below RXx hb
  replace OW := OwnH.below OW hb
  replace OG := OwnH.below OG hb
  have hs15 := hb.size
  try simp only [World.size_alloc] at hs15
  replace L := bst L hb L.size
  clear hb
  have c0x := Row.cell Rx 0
  have c1x := Row.cell Rx 1
  have c2x := Row.cell Rx 2
  have ltx := Row.lt Rx
  have c0Xx := Row.cell RXx 0
  have c1Xx := Row.cell RXx 1
  have c2Xx := Row.cell RXx 2
  have ltXx := Row.lt RXx
  go_wp2_with fail
  clear c0x c1x c2x ltx c0Xx c1Xx c2Xx ltXx
  refine (c_toHeap (.slice paAx nfx qaAx) (.slice pbAx nlx qbAx) (.slice pcAx nrx qcAx) hx _ (HeapAt.below HZx.out L) HMx.out).mono ?_
  rintro e wtx1 ⟨atx, btx, ctx, rfl, ho, hb⟩
  try simp only [World.size_alloc] at ho
  have hsh := ho.shapes
  simp only [HNnfx.out, HNnlx.out, HNnrx.out] at hsh
  obtain ⟨⟨patx, qatx, rfl⟩, ⟨pbtx, qbtx, rfl⟩, ⟨pctx, qctx, rfl⟩⟩ := hsh
  replace Rx := Row.below Rx hb
  replace RXx := Row.below RXx hb
  replace OW := OwnH.below OW hb
  replace OG := OwnH.below OG hb
  have hs16 := hb.size
  try simp only [World.size_alloc] at hs16
  replace L := bst L hb L.size
  clear hb
  have Otx := ho
  clear ho
  have c0x := Row.cell Rx 0
  have c1x := Row.cell Rx 1
  have c2x := Row.cell Rx 2
  have ltx := Row.lt Rx
  have c0Xx := Row.cell RXx 0
  have c1Xx := Row.cell RXx 1
  have c2Xx := Row.cell RXx 2
  have ltXx := Row.lt RXx
  go_wp2_with fail
  clear c0x c1x c2x ltx c0Xx c1Xx c2Xx ltXx
  refine (c_toIntS (.slice pAy ny qAy) zy _ (IntsAt.below HZy.out L) (by rw [HNy.out]; exact HLy.out)).mono ?_
  rintro e wty1 ⟨cty, rfl, ho1, hb⟩
  have ho := OwnH.ofInts ho1 hb
  clear ho1
  try simp only [World.size_alloc] at ho
  have hsh := ho.shapes
  simp only [HNy.out] at hsh
  obtain ⟨_, _, ⟨pcty, qcty, rfl⟩⟩ := hsh
  replace Rx := Row.below Rx hb
  replace RXx := Row.below RXx hb
  replace OW := OwnH.below OW hb
  replace OG := OwnH.below OG hb
  replace Otx := OwnH.below Otx hb
  have hs17 := hb.size
  try simp only [World.size_alloc] at hs17
  replace L := bst L hb L.size
  clear hb
  have Oty := ho
  clear ho
  have c0x := Row.cell Rx 0
  have c1x := Row.cell Rx 1
  have c2x := Row.cell Rx 2
  have ltx := Row.lt Rx
  have c0Xx := Row.cell RXx 0
  have c1Xx := Row.cell RXx 1
  have c2Xx := Row.cell RXx 2
  have ltXx := Row.lt RXx
  go_wp2_with fail
  clear c0x c1x c2x ltx c0Xx c1Xx c2Xx ltXx
  refine (HI.out _ (.slice patx nfx qatx) (.slice pbtx nlx qbtx) (.slice pctx nrx qctx) (.slice pcty ny qcty) Otx.reads Oty.reads.r).mono ?_
  rintro e wH ⟨cH, rfl, ho, hb⟩
  try simp only [World.size_alloc] at ho
  have hsh := ho.shapes
  simp only [HNgl.out] at hsh
  obtain ⟨_, _, ⟨pcH, qcH, rfl⟩⟩ := hsh
  replace Rx := Row.below Rx hb
  replace RXx := Row.below RXx hb
  replace OW := OwnH.below OW hb
  replace OG := OwnH.below OG hb
  replace Otx := OwnH.below Otx hb
  replace Oty := OwnH.below Oty hb
  have hs18 := hb.size
  try simp only [World.size_alloc] at hs18
  replace L := bst L hb L.size
  clear hb
  have OH := ho
  clear ho
  clear Otx
  clear Oty
  have c0x := Row.cell Rx 0
  have c1x := Row.cell Rx 1
  have c2x := Row.cell Rx 2
  have ltx := Row.lt Rx
  have c0Xx := Row.cell RXx 0
  have c1Xx := Row.cell RXx 1
  have c2Xx := Row.cell RXx 2
  have ltXx := Row.lt RXx
  go_wp2_with fail
  clear c0x c1x c2x ltx c0Xx c1Xx c2Xx ltXx
  refine (c_eqIntS (.slice pcH gl qcH) (.slice pcW gl qcW) gs gs _ OH.reads.r OW.reads.r (by rw [HNgl.out]; have := HRS.out; omega)).mono ?_
  rintro e w3e ⟨hre, nd, hnd⟩
  rw [decide_eq_true rfl] at hre
  subst hre
  have hb : Below wH.heap.size wH w3e := by rw [hnd]; exact below_drewN (Below.refl _ _) nd
  clear hnd nd
  replace Rx := Row.below Rx hb
  replace RXx := Row.below RXx hb
  replace OW := OwnH.below OW hb
  replace OG := OwnH.below OG hb
  replace OH := OwnH.below OH hb
  have hs19 := hb.size
  try simp only [World.size_alloc] at hs19
  replace L := bst L hb L.size
  clear hb
  have c0x := Row.cell Rx 0
  have c1x := Row.cell Rx 1
  have c2x := Row.cell Rx 2
  have ltx := Row.lt Rx
  have c0Xx := Row.cell RXx 0
  have c1Xx := Row.cell RXx 1
  have c2Xx := Row.cell RXx 2
  have ltXx := Row.lt RXx
  go_wp2_with fail
  clear c0x c1x c2x ltx c0Xx c1Xx c2Xx ltXx
  refine (c_heldIntS (.slice pcG gl qcG) gl 1 _ OG.reads.r (by omega) (by have := HRS.out; omega)).mono ?_
  rintro e wh2 ⟨rfl, hw⟩
  have hb : Below w3e.heap.size w3e wh2 := by rw [← hw]; exact Below.refl _ _
  clear hw
  replace Rx := Row.below Rx hb
  replace RXx := Row.below RXx hb
  replace OW := OwnH.below OW hb
  replace OG := OwnH.below OG hb
  replace OH := OwnH.below OH hb
  have hs20 := hb.size
  try simp only [World.size_alloc] at hs20
  replace L := bst L hb L.size
  clear hb
  have c0x := Row.cell Rx 0
  have c1x := Row.cell Rx 1
  have c2x := Row.cell Rx 2
  have ltx := Row.lt Rx
  have c0Xx := Row.cell RXx 0
  have c1Xx := Row.cell RXx 1
  have c2Xx := Row.cell RXx 2
  have ltXx := Row.lt RXx
  go_wp2
  go_ret
  exact ⟨rfl, L⟩
set_option maxHeartbeats 1600000 in
set_option maxRecDepth 100000 in
theorem walk_FnExactLostIn (ax bx cx : Value) (hx : H) (vy : Value) (zy : List Int) (w : World) (hzx : HeapAt w ax bx cx hx) (hzy : IntsAt w vy zy) (hfx : FitH hx) (hny : zy.length ≤ 9223372036854775807) : Calls Try.prog 7 #[hv ax bx cx, vy] w fun e w' => e = .returned (.bool true) ∧ Below w.heap.size w w' := by
  by_cases hloy : 1048576 < zy.length
  · have HB0 := Lib.hid (below1 w (.cells (c3 ax bx cx) 26))
    obtain ⟨pA, qA, rfl⟩ := hzy.shape
    have hbl : (1048576 : Int) < (zy.length : Int) := by omega
    generalize zy.length = n at *
    go_enter Try.func7, Try.ntmps7
    go_wp2
    go_ret
    exact ⟨rfl, HB0.out⟩
  have hly : zy.length ≤ 1048576 := by omega
  clear hloy
  by_cases hm : wtH hx ≤ 1048576
  · exact core_FnExactLostIn ax bx cx hx vy zy (lostR hx zy) (bothB hx zy) w hzx hzy hm hly (lostR_len hx zy) (fun w a b c v h q => s_LostIn a b c v hx zy w h q) (fun w a b c v h q => c_LostIn a b c v hx zy w h q)
  · have HB0 := Lib.hid (below1 w (.cells (c3 ax bx cx) 26))
    have HA0 := Lib.hid (hzx.below HB0.out)
    have HF := Lib.hid hfx
    have HMM : Hid ((1048576 : Int) < (wtH hx : Int)) := by unfold Hid; omega
    obtain ⟨pA, qA, rfl⟩ := hzy.shape
    generalize zy.length = n at *
    have hbl : ¬ ((1048576 : Int) < (n : Int)) := by omega
    obtain ⟨paA, qaA, rfl⟩ := hzx.f.shape
    obtain ⟨pbA, qbA, rfl⟩ := hzx.l.shape
    obtain ⟨pcA, qcA, rfl⟩ := hzx.r.shape
    have HC := Lib.hid (c_szHeap_no _ _ _ hx 1048576 _ HA0.out HF.out (by omega) (by omega) HMM.out)
    clear hzx HA0 hfx HF HMM hm
    generalize hx.f.length = nf at *
    generalize hx.l.length = nl at *
    generalize hx.r.length = nr at *
    go_enter Try.func7, Try.ntmps7
    go_wp2_with fail
    refine HC.out.mono ?_
    rintro e w1 ⟨rfl, hb1⟩
    have HB1 := Lib.hid (bst HB0.out hb1 HB0.out.size)
    clear hb1 HC
    go_wp2
    go_ret
    exact ⟨rfl, HB1.out⟩
end Go.Proofs.Ytkkigoamphkalaa
namespace Go.Proofs.Ytkkigoamphkalaa.xLostIn
open Go.ChangeShapes Go.WideShapes Go.ChangeAt Go.RowKit

set_option maxRecDepth 100000 in
theorem contract (H : Type) (enc : TypeId × Value → H) (W : World) (base : Nat) (args : Array Value) (ds gs : List (DataW H)) (before : List MemPlace)
    (hval : ∀ (j : Nat) t v, Try.f7.params[j]? = some t → args[j]? = some v → Value.okWide Try.prog W .any base t v)
    (hW : DataW.Whole enc Try.prog Try.f7.params.toList Rows.fnExactLostInSpec.vars false W args.toList ds gs before) :
    Calls Try.prog 7 args W fun e W' => ∃ v, e = .returned v ∧ Rows.fnExactLostInSpec.post enc Try.prog Try.f7 false true false false W args v W' := by
  have hW' := hW
  obtain ⟨p, q, hA0, hV, rfl, hfz, hnd⟩ := hW
  have hA : DataW.TrodAll enc Try.prog W 0 (fun _ => true) true Try.f7.params.toList args.toList ds p := hA0
  have hpar : ∀ t ∈ Try.f7.params.toList, Try.prog.readableRec t = true ∧ t < Try.prog.types.size := by
    rw [Try.params7]; intro t ht; simp at ht; rcases ht with rfl | rfl <;> first | exact r_heap | exact r_ints
  rw [Try.params7] at hA hval
  obtain ⟨v0, vs0, d0, ds0, p0, q0, hargs, rfl, rfl, h0, r0⟩ := trodAll_cons hA
  obtain ⟨v1, vs1, d1, ds1, p1, q1, rfl, rfl, rfl, h1, r1⟩ := trodAll_cons r0
  obtain ⟨rfl, rfl, rfl⟩ := trodAll_nil r1
  obtain rfl : args = #[v0, v1] := by cases args; simp_all
  obtain ⟨rfl, rfl⟩ := trodVars_none hV
  obtain ⟨fa0, fb0, fc0, z0, rfl, hz0, hn0⟩ := heap_of_arg (hval 0 26 v0 rfl rfl) h0
  obtain ⟨z1, hz1, hn1⟩ := list_of_arg (hval 1 24 v1 rfl rfl) h1
  refine (walk_FnExactLostIn fa0 fb0 fc0 z0 v1 z1 W hz0 hz1 hn0 hn1).mono fun e W' ⟨he, hb⟩ => ?_
  subst he
  exact ⟨_, rfl, law_post laidOut hpar (fun n hn => by cases hn) hW' hb rfl (by kernel_rfl) Try.underlying4⟩

set_option maxRecDepth 100000 in
theorem lifted (os : Os) (started : os.Started) (H : Type) (enc : TypeId × Value → H) :
    ReturnsInHanded {} Try.checked os 7 .any (Rows.fnExactLostInSpec.pre6 enc Try.prog Try.f7 Rows.fnExactLostInRow.domain false) (Rows.fnExactLostInSpec.post enc Try.prog Try.f7 false true false false) := by
  refine returnsInHanded_of_change (C := Try.checked) own started (by kernel_rfl) Try.func7
    (ChangeSpec.witness6 (enc := enc) (C := Try.checked) false ⟨#[], #[.agg #[.slice none 0 0, .slice none 0 0, .slice none 0 0], .slice none 0 0], []⟩ 8 (by kernel_rfl) (by kernel_rfl) (by kernel_rfl) (by kernel_rfl)) ?_
  intro W base args ds gs before hval hW _ _
  exact contract H enc W base args ds gs before hval hW
end Go.Proofs.Ytkkigoamphkalaa.xLostIn
namespace Go.Proofs.Ytkkigoamphkalaa
theorem xLostIn_said : Rows.FnExactLostInSaid :=
  OpenClaim.holds_of_wide 7 Try.f7 rfl rfl rfl rfl rfl rfl rfl ⟨rfl, rfl, rfl, rfl, rfl⟩ rfl rfl rfl rfl rfl (by kernel_rfl) Try.func7 (by kernel_rfl)
    (of_decide_eq_true (by kernel_rfl)) (by unfold Func.isWrapper; first | (rw [if_pos (by decide +kernel)]; kernel_rfl) | (rw [if_neg (by decide +kernel)]; exact ⟨rfl, rfl⟩))
    (fun os started H enc _ => xLostIn.lifted os started H enc)
end Go.Proofs.Ytkkigoamphkalaa
