/- laws.FnExactMinorKeeps: for every input the law answers true, and the input reads as it did. No condition. -/
import Derived.Test.YtbmfkgfmibpkjaaPA5
namespace Go.Proofs.Ytbmfkgfmibpkjaa
open Go.RowKit Ph

set_option maxHeartbeats 12800000 in
set_option maxRecDepth 100000 in
theorem core_FnExactMinorKeeps (ax bx cx ox kx : Value) (hx : H) (sx : List Bool) (zx : List Int) (gz : List Bool) (ok : Bool) (w : World) (hzx : HeapAt w ax bx cx hx) (hox : BoolsAt w ox sx) (hyx : IntsAt w kx zx) (hm : wtH hx + sx.length + zx.length ≤ 1048576) (hrs : gz.length ≤ 1000)
    (hS : ∀ (w : World) (ax bx cx ox kx : Value), HeapAt w ax bx cx hx → BoolsAt w ox sx → IntsAt w kx zx → Calls Try.prog 63 #[av ax bx cx ox kx] w (EndB gz ok w))
    (hI : ∀ (w : World) (ax bx cx ox kx : Value), HeapAt w ax bx cx hx → BoolsAt w ox sx → IntsAt w kx zx → Calls Try.prog 64 #[av ax bx cx ox kx] w (EndB gz ok w)) :
    Calls Try.prog 12 #[av ax bx cx ox kx] w fun e w' => e = .returned (.bool true) ∧ Below w.heap.size w w' := by
  have HZ := Lib.hid hzx; have HY := Lib.hid hyx; have HO := Lib.hid hox
  have HS := Lib.hid hS; have HI := Lib.hid hI
  clear hS hI
  obtain ⟨paA, qaA, rfl⟩ := hzx.f.shape
  obtain ⟨pbA, qbA, rfl⟩ := hzx.l.shape
  obtain ⟨pcA, qcA, rfl⟩ := hzx.r.shape
  obtain ⟨poA, qoA, rfl⟩ := hox.shape
  obtain ⟨pkA, qkA, rfl⟩ := hyx.shape
  clear hzx hyx hox
  have HSZ : Hid (szM hx ≤ 1048576 ∧ hx.f.length ≤ 1048576) := by unfold Hid szM; have := hm; unfold wtH wt at this; omega
  generalize hg : gz.length = g at *
  have HNg := Lib.hid hg; clear hg
  have HGB := Lib.hid hrs; clear hrs
  generalize hwt : wtH hx = wt at *
  have HWT := Lib.hid hwt; clear hwt
  generalize hnnf : hx.f.length = nf at *
  have HNnf := Lib.hid hnnf; clear hnnf
  generalize hnnl : hx.l.length = nl at *
  have HNnl := Lib.hid hnnl; clear hnnl
  generalize hnnr : hx.r.length = nr at *
  have HNnr := Lib.hid hnnr; clear hnnr
  generalize hnno : sx.length = no at *
  have HNno := Lib.hid hnno; clear hnno
  generalize hnnk : zx.length = nk at *
  have HNnk := Lib.hid hnnk; clear hnnk
  generalize hsz : szM hx = sz at *
  have HSM := Lib.hid hsz; clear hsz
  have HM : Hid (wtH hx ≤ 1048576) := by unfold Hid; rw [HWT.out]; omega
  have HMno : Hid (sx.length ≤ 1048576) := by unfold Hid; rw [HNno.out]; omega
  have HMnk : Hid (zx.length ≤ 1048576) := by unfold Hid; rw [HNnk.out]; omega
  have hl0 : ¬ ((1048576 : Int) - (wt : Int) - (no : Int) - (nk : Int)) < 0 := by omega
  have e1 : (ok != ok) = false := by simp
  have L := Lib.hid (below1 w (.cells (a5 (.slice paA nf qaA) (.slice pbA nl qbA) (.slice pcA nr qcA) (.slice poA no qoA) (.slice pkA nk qkA)) 66))
  have Rx : Hid (Row (w.alloc (.cells (a5 (.slice paA nf qaA) (.slice pbA nl qbA) (.slice pcA nr qcA) (.slice poA no qoA) (.slice pkA nk qkA)) 66)) w.heap.size 66 (a5 (.slice paA nf qaA) (.slice pbA nl qbA) (.slice pcA nr qcA) (.slice poA no qoA) (.slice pkA nk qkA))) := Row.new w _ _
  have S1 : Hid (w.heap.size + 1 ≤ (w.alloc (.cells (a5 (.slice paA nf qaA) (.slice pbA nl qbA) (.slice pcA nr qcA) (.slice poA no qoA) (.slice pkA nk qkA)) 66)).heap.size) := (by unfold Hid; simp)
  go_enter Try.func12, Try.ntmps12
  have c0x := Row.cell Rx.out 0
  have c1x := Row.cell Rx.out 1
  have c2x := Row.cell Rx.out 2
  have c3x := Row.cell Rx.out 3
  have c4x := Row.cell Rx.out 4
  go_wp2_with fail
  clear c0x c1x c2x c3x c4x
  refine (c_szAges_yes (.slice paA nf qaA) (.slice pbA nl qbA) (.slice pcA nr qcA) (.slice poA no qoA) (.slice pkA nk qkA) hx sx zx 1048576 _ (HZ.out.below L.out) (HO.out.below L.out) (HY.out.below L.out) (by omega) (by rw [HWT.out, HNno.out, HNnk.out]; omega)).mono ?_
  rintro e ws ⟨rfl, hb⟩
  rw [HWT.out, HNno.out, HNnk.out]
  replace Rx := Lib.hid (Row.below Rx.out hb)
  have S2 : Hid ((w.alloc (.cells (a5 (.slice paA nf qaA) (.slice pbA nl qbA) (.slice pcA nr qcA) (.slice poA no qoA) (.slice pkA nk qkA)) 66)).heap.size ≤ ws.heap.size) := hb.size
  replace L := Lib.hid (bst L.out hb L.out.size)
  clear hb
  have c0x := Row.cell Rx.out 0
  have c1x := Row.cell Rx.out 1
  have c2x := Row.cell Rx.out 2
  have c3x := Row.cell Rx.out 3
  have c4x := Row.cell Rx.out 4
  go_wp2_with fail
  clear c0x c1x c2x c3x c4x
  refine (c_toAges (.slice paA nf qaA) (.slice pbA nl qbA) (.slice pcA nr qcA) (.slice poA no qoA) (.slice pkA nk qkA) hx sx zx _ (HZ.out.below L.out) (HO.out.below L.out) (HY.out.below L.out) HM.out HMno.out HMnk.out).mono ?_
  rintro e wq ⟨aQ, bQ, cQ, oQ, kQ, rfl, ho, hb⟩
  have hsh := ho.shapes
  simp only [HNnf.out, HNnl.out, HNnr.out, HNno.out, HNnk.out] at hsh
  obtain ⟨⟨paQ, qaQ, rfl⟩, ⟨pbQ, qbQ, rfl⟩, ⟨pcQ, qcQ, rfl⟩, ⟨poQ, qoQ, rfl⟩, ⟨pkQ, qkQ, rfl⟩⟩ := hsh
  have OQ : Hid (OwnA wq ws.heap.size wq.heap.size (.slice paQ nf qaQ) (.slice pbQ nl qbQ) (.slice pcQ nr qcQ) (.slice poQ no qoQ) (.slice pkQ nk qkQ) hx sx zx) := ho
  clear ho
  replace Rx := Lib.hid (Row.below Rx.out hb)
  have S3 : Hid (ws.heap.size ≤ wq.heap.size) := hb.size
  replace L := Lib.hid (bst L.out hb L.out.size)
  clear hb
  have c0x := Row.cell Rx.out 0
  have c1x := Row.cell Rx.out 1
  have c2x := Row.cell Rx.out 2
  have c3x := Row.cell Rx.out 3
  have c4x := Row.cell Rx.out 4
  go_wp2_with fail
  clear c0x c1x c2x c3x c4x
  refine (HS.out _ (.slice paQ nf qaQ) (.slice pbQ nl qbQ) (.slice pcQ nr qcQ) (.slice poQ no qoQ) (.slice pkQ nk qkQ) OQ.out.heap OQ.out.old OQ.out.book).mono ?_
  rintro e wW ⟨vW, rfl, ho, hb⟩
  have hsh := ho.shapes
  simp only [HNg.out, List.length_nil] at hsh
  obtain ⟨_, ⟨pW, qW, rfl⟩, _⟩ := hsh
  have OW : Hid (OwnH wW wq.heap.size wW.heap.size nilS (.slice pW g qW) nilS ⟨[], gz, []⟩) := ho
  clear ho
  replace Rx := Lib.hid (Row.below Rx.out hb)
  replace OQ := Lib.hid (OwnA.below OQ.out hb)
  have S4 : Hid (wq.heap.size ≤ wW.heap.size) := hb.size
  replace L := Lib.hid (bst L.out hb L.out.size)
  clear hb
  clear OQ
  have c0x := Row.cell Rx.out 0
  have c1x := Row.cell Rx.out 1
  have c2x := Row.cell Rx.out 2
  have c3x := Row.cell Rx.out 3
  have c4x := Row.cell Rx.out 4
  go_wp2_with fail
  clear c0x c1x c2x c3x c4x
  refine (c_toAges (.slice paA nf qaA) (.slice pbA nl qbA) (.slice pcA nr qcA) (.slice poA no qoA) (.slice pkA nk qkA) hx sx zx _ (HZ.out.below L.out) (HO.out.below L.out) (HY.out.below L.out) HM.out HMno.out HMnk.out).mono ?_
  rintro e wX ⟨aX, bX, cX, oX, kX, rfl, ho, hb⟩
  have hsh := ho.shapes
  simp only [HNnf.out, HNnl.out, HNnr.out, HNno.out, HNnk.out] at hsh
  obtain ⟨⟨paX, qaX, rfl⟩, ⟨pbX, qbX, rfl⟩, ⟨pcX, qcX, rfl⟩, ⟨poX, qoX, rfl⟩, ⟨pkX, qkX, rfl⟩⟩ := hsh
  have OX : Hid (OwnA wX wW.heap.size wX.heap.size (.slice paX nf qaX) (.slice pbX nl qbX) (.slice pcX nr qcX) (.slice poX no qoX) (.slice pkX nk qkX) hx sx zx) := ho
  clear ho
  replace Rx := Lib.hid (Row.below Rx.out hb)
  replace OW := Lib.hid (OwnH.below OW.out hb)
  have S5 : Hid (wW.heap.size ≤ wX.heap.size) := hb.size
  replace L := Lib.hid (bst L.out hb L.out.size)
  clear hb
  have c0x := Row.cell Rx.out 0
  have c1x := Row.cell Rx.out 1
  have c2x := Row.cell Rx.out 2
  have c3x := Row.cell Rx.out 3
  have c4x := Row.cell Rx.out 4
  go_wp2_with fail
  clear c0x c1x c2x c3x c4x
  have hb := below1 wX (.cells (a5 (.slice paX nf qaX) (.slice pbX nl qbX) (.slice pcX nr qcX) (.slice poX no qoX) (.slice pkX nk qkX)) 59)
  have RN : Hid (Row (wX.alloc (.cells (a5 (.slice paX nf qaX) (.slice pbX nl qbX) (.slice pcX nr qcX) (.slice poX no qoX) (.slice pkX nk qkX)) 59)) wX.heap.size 59 (a5 (.slice paX nf qaX) (.slice pbX nl qbX) (.slice pcX nr qcX) (.slice poX no qoX) (.slice pkX nk qkX))) := Row.new wX _ _
  have S6 : Hid (wX.heap.size < (wX.alloc (.cells (a5 (.slice paX nf qaX) (.slice pbX nl qbX) (.slice pcX nr qcX) (.slice poX no qoX) (.slice pkX nk qkX)) 59)).heap.size) := (by unfold Hid; simp)
  replace Rx := Lib.hid (Row.below Rx.out hb)
  replace OW := Lib.hid (OwnH.below OW.out hb)
  replace OX := Lib.hid (OwnA.below OX.out hb)
  have S7 : Hid (wX.heap.size ≤ (wX.alloc (.cells (a5 (.slice paX nf qaX) (.slice pbX nl qbX) (.slice pcX nr qcX) (.slice poX no qoX) (.slice pkX nk qkX)) 59)).heap.size) := hb.size
  replace L := Lib.hid (bst L.out hb L.out.size)
  clear hb
  have RX := RN
  clear RN
  have c0x := Row.cell Rx.out 0
  have c1x := Row.cell Rx.out 1
  have c2x := Row.cell Rx.out 2
  have c3x := Row.cell Rx.out 3
  have c4x := Row.cell Rx.out 4
  have c0X := Row.cell RX.out 0
  have c1X := Row.cell RX.out 1
  have c2X := Row.cell RX.out 2
  have c3X := Row.cell RX.out 3
  have c4X := Row.cell RX.out 4
  go_wp2_with fail
  clear c0x c1x c2x c3x c4x c0X c1X c2X c3X c4X
  refine (HI.out _ (.slice paX nf qaX) (.slice pbX nl qbX) (.slice pcX nr qcX) (.slice poX no qoX) (.slice pkX nk qkX) OX.out.heap OX.out.old OX.out.book).mono ?_
  rintro e wG ⟨vG, rfl, ho, hb⟩
  have hsh := ho.shapes
  simp only [HNg.out, List.length_nil] at hsh
  obtain ⟨_, ⟨pG, qG, rfl⟩, _⟩ := hsh
  have OG : Hid (OwnH wG (wX.alloc (.cells (a5 (.slice paX nf qaX) (.slice pbX nl qbX) (.slice pcX nr qcX) (.slice poX no qoX) (.slice pkX nk qkX)) 59)).heap.size wG.heap.size nilS (.slice pG g qG) nilS ⟨[], gz, []⟩) := ho
  clear ho
  replace Rx := Lib.hid (Row.below Rx.out hb)
  replace RX := Lib.hid (Row.below RX.out hb)
  replace OW := Lib.hid (OwnH.below OW.out hb)
  replace OX := Lib.hid (OwnA.below OX.out hb)
  have S8 : Hid ((wX.alloc (.cells (a5 (.slice paX nf qaX) (.slice pbX nl qbX) (.slice pcX nr qcX) (.slice poX no qoX) (.slice pkX nk qkX)) 59)).heap.size ≤ wG.heap.size) := hb.size
  replace L := Lib.hid (bst L.out hb L.out.size)
  clear hb
  have c0x := Row.cell Rx.out 0
  have c1x := Row.cell Rx.out 1
  have c2x := Row.cell Rx.out 2
  have c3x := Row.cell Rx.out 3
  have c4x := Row.cell Rx.out 4
  have c0X := Row.cell RX.out 0
  have c1X := Row.cell RX.out 1
  have c2X := Row.cell RX.out 2
  have c3X := Row.cell RX.out 3
  have c4X := Row.cell RX.out 4
  go_wp2_with fail
  clear c0x c1x c2x c3x c4x c0X c1X c2X c3X c4X
  refine (c_eqBoolS (.slice pG g qG) (.slice pW g qW) gz _ (OwnH.reads OG.out).l (OwnH.reads OW.out).l (by rw [HNg.out]; have := HGB.out; omega)).mono ?_
  rintro e w1e ⟨rfl, nd, hnd⟩
  have hb : Below wG.heap.size wG w1e := by rw [hnd]; exact below_drewN (Below.refl _ _) nd
  clear hnd nd
  replace Rx := Lib.hid (Row.below Rx.out hb)
  replace RX := Lib.hid (Row.below RX.out hb)
  replace OW := Lib.hid (OwnH.below OW.out hb)
  replace OX := Lib.hid (OwnA.below OX.out hb)
  replace OG := Lib.hid (OwnH.below OG.out hb)
  have S9 : Hid (wG.heap.size ≤ w1e.heap.size) := hb.size
  replace L := Lib.hid (bst L.out hb L.out.size)
  clear hb
  have c0x := Row.cell Rx.out 0
  have c1x := Row.cell Rx.out 1
  have c2x := Row.cell Rx.out 2
  have c3x := Row.cell Rx.out 3
  have c4x := Row.cell Rx.out 4
  have c0X := Row.cell RX.out 0
  have c1X := Row.cell RX.out 1
  have c2X := Row.cell RX.out 2
  have c3X := Row.cell RX.out 3
  have c4X := Row.cell RX.out 4
  go_wp2_with fail
  clear c0x c1x c2x c3x c4x c0X c1X c2X c3X c4X
  have RR0 : w1e.drew.cell? ⟨w.heap.size, 0, none⟩ = some (.slice paA nf qaA) := Row.cell Rx.out 0
  have RR1 : w1e.drew.cell? ⟨w.heap.size, 1, none⟩ = some (.slice pbA nl qbA) := Row.cell Rx.out 1
  have RR2 : w1e.drew.cell? ⟨w.heap.size, 2, none⟩ = some (.slice pcA nr qcA) := Row.cell Rx.out 2
  have RR3 : w1e.drew.cell? ⟨w.heap.size, 3, none⟩ = some (.slice poA no qoA) := Row.cell Rx.out 3
  have RR4 : w1e.drew.cell? ⟨w.heap.size, 4, none⟩ = some (.slice pkA nk qkA) := Row.cell Rx.out 4
  have RX0 : w1e.drew.cell? ⟨wX.heap.size, 0, none⟩ = some (.slice paX nf qaX) := Row.cell RX.out 0
  have RX1 : w1e.drew.cell? ⟨wX.heap.size, 1, none⟩ = some (.slice pbX nl qbX) := Row.cell RX.out 1
  have RX2 : w1e.drew.cell? ⟨wX.heap.size, 2, none⟩ = some (.slice pcX nr qcX) := Row.cell RX.out 2
  have RX3 : w1e.drew.cell? ⟨wX.heap.size, 3, none⟩ = some (.slice poX no qoX) := Row.cell RX.out 3
  have RX4 : w1e.drew.cell? ⟨wX.heap.size, 4, none⟩ = some (.slice pkX nk qkX) := Row.cell RX.out 4
  have BD := below_drew (Below.refl w1e.heap.size w1e)
  have IZ := Lib.hid (HeapAt.below HZ.out (below_drew L.out))
  have IY := Lib.hid (IntsAt.below HY.out (below_drew L.out))
  have IO := Lib.hid (BoolsAt.below HO.out (below_drew L.out))
  have IX := Lib.hid (OX.out.heap.below BD)
  have JX := Lib.hid (OX.out.old.below BD)
  have KX := Lib.hid (OX.out.book.below BD)
  go_region_held3 (fun w' => w'.cell? ⟨w.heap.size, 0, none⟩ = some (.slice paA nf qaA) ∧ w'.cell? ⟨w.heap.size, 1, none⟩ = some (.slice pbA nl qbA) ∧ w'.cell? ⟨w.heap.size, 2, none⟩ = some (.slice pcA nr qcA) ∧ w'.cell? ⟨w.heap.size, 3, none⟩ = some (.slice poA no qoA) ∧ w'.cell? ⟨w.heap.size, 4, none⟩ = some (.slice pkA nk qkA) ∧ w'.cell? ⟨wX.heap.size, 0, none⟩ = some (.slice paX nf qaX) ∧ w'.cell? ⟨wX.heap.size, 1, none⟩ = some (.slice pbX nl qbX) ∧ w'.cell? ⟨wX.heap.size, 2, none⟩ = some (.slice pcX nr qcX) ∧ w'.cell? ⟨wX.heap.size, 3, none⟩ = some (.slice poX no qoX) ∧ w'.cell? ⟨wX.heap.size, 4, none⟩ = some (.slice pkX nk qkX) ∧ Below w1e.heap.size w1e w')
    (first
      | (with_reducible exact ⟨RR0, RR1, RR2, RR3, RR4, RX0, RX1, RX2, RX3, RX4, BD⟩)
      | (go_split_ands
         exact ⟨cellBelow hbk (Nat.le_refl _) (by assumption), cellBelow hbk (Nat.le_refl _) (by assumption), cellBelow hbk (Nat.le_refl _) (by assumption), cellBelow hbk (Nat.le_refl _) (by assumption), cellBelow hbk (Nat.le_refl _) (by assumption), cellBelow hbk (Nat.le_refl _) (by assumption), cellBelow hbk (Nat.le_refl _) (by assumption), cellBelow hbk (Nat.le_refl _) (by assumption), cellBelow hbk (Nat.le_refl _) (by assumption), cellBelow hbk (Nat.le_refl _) (by assumption), bst (by assumption) hbk (Below.size (by assumption))⟩)
      | (go_split_ands; refine ⟨?_, ?_, ?_, ?_, ?_, ?_, ?_, ?_, ?_, ?_, ?_⟩ <;> assumption))
    (first
      | (go_at_call 45; refine (c_toAges (.slice paA nf qaA) (.slice pbA nl qbA) (.slice pcA nr qcA) (.slice poA no qoA) (.slice pkA nk qkA) hx sx zx _ IZ.out IO.out IY.out HM.out HMno.out HMnk.out).mono ?_; rintro e wD1 ⟨aD, bD, cD, oD, kD, rfl, hoD, hbk⟩; have DIX := Lib.hid hoD.heap; have EIX := Lib.hid (IX.out.below hbk); have DJX := Lib.hid hoD.old; have EJX := Lib.hid (JX.out.below hbk); have DKX := Lib.hid hoD.book; have EKX := Lib.hid (KX.out.below hbk); clear hoD)
      | (go_at_call 40; refine (c_eqAges _ _ _ _ _ _ _ _ _ _ hx sx zx _ EIX.out EJX.out EKX.out DIX.out DJX.out DKX.out HM.out HMno.out HMnk.out).mono ?_; rintro e wD2 ⟨rfl, hbk⟩))
  have hb : Below w1e.heap.size w1e wD2 := by go_split_ands; assumption
  clear DIX EIX IX DJX EJX JX DKX EKX KX IZ IY IO RR0 RX0 RR1 RX1 RR2 RX2 RR3 RX3 RR4 RX4 BD
  replace Rx := Lib.hid (Row.below Rx.out hb)
  replace RX := Lib.hid (Row.below RX.out hb)
  replace OW := Lib.hid (OwnH.below OW.out hb)
  replace OX := Lib.hid (OwnA.below OX.out hb)
  replace OG := Lib.hid (OwnH.below OG.out hb)
  have S10 : Hid (w1e.heap.size ≤ wD2.heap.size) := hb.size
  replace L := Lib.hid (bst L.out hb L.out.size)
  clear hb
  have c0x := Row.cell Rx.out 0
  have c1x := Row.cell Rx.out 1
  have c2x := Row.cell Rx.out 2
  have c3x := Row.cell Rx.out 3
  have c4x := Row.cell Rx.out 4
  have c0X := Row.cell RX.out 0
  have c1X := Row.cell RX.out 1
  have c2X := Row.cell RX.out 2
  have c3X := Row.cell RX.out 3
  have c4X := Row.cell RX.out 4
  go_wp2_with fail
  clear c0x c1x c2x c3x c4x c0X c1X c2X c3X c4X
  refine (c_markAges wW.heap.size wX.heap.size (.slice paX nf qaX) (.slice pbX nl qbX) (.slice pcX nr qcX) (.slice poX no qoX) (.slice pkX nk qkX) hx sx zx 1 _ OX.out (by omega) (by have := HMno.out; have := HMnk.out; rw [HSM.out]; have h9 := HSZ.out.1; omega) (by rw [HNnf.out]; have := HSZ.out.2; omega) (by have := S1.out; have := S2.out; have := S3.out; have := S4.out; have := S5.out; have := S6.out; have := S7.out; have := S8.out; have := S9.out; have := S10.out; omega)).mono ?_
  rintro e wmx ⟨rfl, ho, hch⟩
  rw [HSM.out, HNno.out, HNnk.out]
  have Qx : Hid (w.heap.size < wD2.heap.size) := Row.lt Rx.out
  have QX : Hid (wX.heap.size < wD2.heap.size) := Row.lt RX.out
  replace Rx := Lib.hid (Row.chg Rx.out hch (by have := S1.out; have := S2.out; have := S3.out; have := S4.out; have := S5.out; have := S6.out; have := S7.out; have := S8.out; have := S9.out; have := S10.out; have := Qx.out; omega))
  replace RX := Lib.hid (Row.chg RX.out hch (by have := S1.out; have := S2.out; have := S3.out; have := S4.out; have := S5.out; have := S6.out; have := S7.out; have := S8.out; have := S9.out; have := S10.out; have := QX.out; omega))
  replace OW := Lib.hid (OwnH.chg OW.out hch (by have := S1.out; have := S2.out; have := S3.out; have := S4.out; have := S5.out; have := S6.out; have := S7.out; have := S8.out; have := S9.out; have := S10.out; omega))
  replace OG := Lib.hid (OwnH.chg OG.out hch (by have := S1.out; have := S2.out; have := S3.out; have := S4.out; have := S5.out; have := S6.out; have := S7.out; have := S8.out; have := S9.out; have := S10.out; omega))
  replace L := Lib.hid (below_chg L.out hch (by have := S1.out; have := S2.out; have := S3.out; have := S4.out; have := S5.out; have := S6.out; have := S7.out; have := S8.out; have := S9.out; have := S10.out; have := Qx.out; omega) L.out.size)
  have S11 : Hid (wD2.heap.size ≤ wmx.heap.size) := hch.size
  clear hch Qx QX
  clear OX ho
  have c0x := Row.cell Rx.out 0
  have c1x := Row.cell Rx.out 1
  have c2x := Row.cell Rx.out 2
  have c3x := Row.cell Rx.out 3
  have c4x := Row.cell Rx.out 4
  have c0X := Row.cell RX.out 0
  have c1X := Row.cell RX.out 1
  have c2X := Row.cell RX.out 2
  have c3X := Row.cell RX.out 3
  have c4X := Row.cell RX.out 4
  go_wp2_with fail
  clear c0x c1x c2x c3x c4x c0X c1X c2X c3X c4X
  refine (c_eqBoolS (.slice pG g qG) (.slice pW g qW) gz _ (OwnH.reads OG.out).l (OwnH.reads OW.out).l (by rw [HNg.out]; have := HGB.out; omega)).mono ?_
  rintro e w2e ⟨rfl, nd, hnd⟩
  have hb : Below wmx.heap.size wmx w2e := by rw [hnd]; exact below_drewN (Below.refl _ _) nd
  clear hnd nd
  replace Rx := Lib.hid (Row.below Rx.out hb)
  replace RX := Lib.hid (Row.below RX.out hb)
  replace OW := Lib.hid (OwnH.below OW.out hb)
  replace OG := Lib.hid (OwnH.below OG.out hb)
  have S12 : Hid (wmx.heap.size ≤ w2e.heap.size) := hb.size
  replace L := Lib.hid (bst L.out hb L.out.size)
  clear hb
  have c0x := Row.cell Rx.out 0
  have c1x := Row.cell Rx.out 1
  have c2x := Row.cell Rx.out 2
  have c3x := Row.cell Rx.out 3
  have c4x := Row.cell Rx.out 4
  have c0X := Row.cell RX.out 0
  have c1X := Row.cell RX.out 1
  have c2X := Row.cell RX.out 2
  have c3X := Row.cell RX.out 3
  have c4X := Row.cell RX.out 4
  go_wp2_with fail
  clear c0x c1x c2x c3x c4x c0X c1X c2X c3X c4X
  refine (c_markLive (wX.alloc (.cells (a5 (.slice paX nf qaX) (.slice pbX nl qbX) (.slice pcX nr qcX) (.slice poX no qoX) (.slice pkX nk qkX)) 59)).heap.size wG.heap.size nilS (.slice pG g qG) nilS ⟨[], gz, []⟩ 1 _ OG.out (by omega) (by simp only [HNg.out]; have := HGB.out; omega)).mono ?_
  rintro e wmG ⟨rfl, ho, hch⟩
  simp only [HNg.out] at ho ⊢
  have Qx : Hid (w.heap.size < w2e.heap.size) := Row.lt Rx.out
  have QX : Hid (wX.heap.size < w2e.heap.size) := Row.lt RX.out
  replace Rx := Lib.hid (Row.chg Rx.out hch (by have := S1.out; have := S2.out; have := S3.out; have := S4.out; have := S5.out; have := S6.out; have := S7.out; have := S8.out; have := S9.out; have := S10.out; have := S11.out; have := S12.out; have := Qx.out; omega))
  replace RX := Lib.hid (Row.chg RX.out hch (by have := S1.out; have := S2.out; have := S3.out; have := S4.out; have := S5.out; have := S6.out; have := S7.out; have := S8.out; have := S9.out; have := S10.out; have := S11.out; have := S12.out; have := QX.out; omega))
  replace OW := Lib.hid (OwnH.chg OW.out hch (by have := S1.out; have := S2.out; have := S3.out; have := S4.out; have := S5.out; have := S6.out; have := S7.out; have := S8.out; have := S9.out; have := S10.out; have := S11.out; have := S12.out; omega))
  replace L := Lib.hid (below_chg L.out hch (by have := S1.out; have := S2.out; have := S3.out; have := S4.out; have := S5.out; have := S6.out; have := S7.out; have := S8.out; have := S9.out; have := S10.out; have := S11.out; have := S12.out; have := Qx.out; omega) L.out.size)
  have S13 : Hid (w2e.heap.size ≤ wmG.heap.size) := hch.size
  clear hch Qx QX
  replace OG := Lib.hid ho
  clear ho
  have c0x := Row.cell Rx.out 0
  have c1x := Row.cell Rx.out 1
  have c2x := Row.cell Rx.out 2
  have c3x := Row.cell Rx.out 3
  have c4x := Row.cell Rx.out 4
  have c0X := Row.cell RX.out 0
  have c1X := Row.cell RX.out 1
  have c2X := Row.cell RX.out 2
  have c3X := Row.cell RX.out 3
  have c4X := Row.cell RX.out 4
  go_wp2_with fail
  clear c0x c1x c2x c3x c4x c0X c1X c2X c3X c4X
  refine (c_heldBoolS (.slice pG g qG) g 1 _ (OwnH.reads OG.out).l (by omega) (by have := HGB.out; omega)).mono ?_
  rintro e wh1 ⟨rfl, hw⟩
  have hb : Below wmG.heap.size wmG wh1 := by rw [← hw]; exact Below.refl _ _
  clear hw
  replace Rx := Lib.hid (Row.below Rx.out hb)
  replace RX := Lib.hid (Row.below RX.out hb)
  replace OW := Lib.hid (OwnH.below OW.out hb)
  replace OG := Lib.hid (OwnH.below OG.out hb)
  have S14 : Hid (wmG.heap.size ≤ wh1.heap.size) := hb.size
  replace L := Lib.hid (bst L.out hb L.out.size)
  clear hb
  have c0x := Row.cell Rx.out 0
  have c1x := Row.cell Rx.out 1
  have c2x := Row.cell Rx.out 2
  have c3x := Row.cell Rx.out 3
  have c4x := Row.cell Rx.out 4
  have c0X := Row.cell RX.out 0
  have c1X := Row.cell RX.out 1
  have c2X := Row.cell RX.out 2
  have c3X := Row.cell RX.out 3
  have c4X := Row.cell RX.out 4
  go_wp2_with fail
  clear c0x c1x c2x c3x c4x c0X c1X c2X c3X c4X
  refine (c_toAges (.slice paA nf qaA) (.slice pbA nl qbA) (.slice pcA nr qcA) (.slice poA no qoA) (.slice pkA nk qkA) hx sx zx _ (HZ.out.below L.out) (HO.out.below L.out) (HY.out.below L.out) HM.out HMno.out HMnk.out).mono ?_
  rintro e wT ⟨aT, bT, cT, oT, kT, rfl, ho, hb⟩
  have hsh := ho.shapes
  simp only [HNnf.out, HNnl.out, HNnr.out, HNno.out, HNnk.out] at hsh
  obtain ⟨⟨paT, qaT, rfl⟩, ⟨pbT, qbT, rfl⟩, ⟨pcT, qcT, rfl⟩, ⟨poT, qoT, rfl⟩, ⟨pkT, qkT, rfl⟩⟩ := hsh
  have OT : Hid (OwnA wT wh1.heap.size wT.heap.size (.slice paT nf qaT) (.slice pbT nl qbT) (.slice pcT nr qcT) (.slice poT no qoT) (.slice pkT nk qkT) hx sx zx) := ho
  clear ho
  replace Rx := Lib.hid (Row.below Rx.out hb)
  replace RX := Lib.hid (Row.below RX.out hb)
  replace OW := Lib.hid (OwnH.below OW.out hb)
  replace OG := Lib.hid (OwnH.below OG.out hb)
  have S15 : Hid (wh1.heap.size ≤ wT.heap.size) := hb.size
  replace L := Lib.hid (bst L.out hb L.out.size)
  clear hb
  have c0x := Row.cell Rx.out 0
  have c1x := Row.cell Rx.out 1
  have c2x := Row.cell Rx.out 2
  have c3x := Row.cell Rx.out 3
  have c4x := Row.cell Rx.out 4
  have c0X := Row.cell RX.out 0
  have c1X := Row.cell RX.out 1
  have c2X := Row.cell RX.out 2
  have c3X := Row.cell RX.out 3
  have c4X := Row.cell RX.out 4
  go_wp2_with fail
  clear c0x c1x c2x c3x c4x c0X c1X c2X c3X c4X
  refine (HI.out _ (.slice paT nf qaT) (.slice pbT nl qbT) (.slice pcT nr qcT) (.slice poT no qoT) (.slice pkT nk qkT) OT.out.heap OT.out.old OT.out.book).mono ?_
  rintro e wH ⟨vH, rfl, ho, hb⟩
  have hsh := ho.shapes
  simp only [HNg.out, List.length_nil] at hsh
  obtain ⟨_, ⟨pH, qH, rfl⟩, _⟩ := hsh
  have OH : Hid (OwnH wH wT.heap.size wH.heap.size nilS (.slice pH g qH) nilS ⟨[], gz, []⟩) := ho
  clear ho
  replace Rx := Lib.hid (Row.below Rx.out hb)
  replace RX := Lib.hid (Row.below RX.out hb)
  replace OW := Lib.hid (OwnH.below OW.out hb)
  replace OG := Lib.hid (OwnH.below OG.out hb)
  replace OT := Lib.hid (OwnA.below OT.out hb)
  have S16 : Hid (wT.heap.size ≤ wH.heap.size) := hb.size
  replace L := Lib.hid (bst L.out hb L.out.size)
  clear hb
  clear OT
  have c0x := Row.cell Rx.out 0
  have c1x := Row.cell Rx.out 1
  have c2x := Row.cell Rx.out 2
  have c3x := Row.cell Rx.out 3
  have c4x := Row.cell Rx.out 4
  have c0X := Row.cell RX.out 0
  have c1X := Row.cell RX.out 1
  have c2X := Row.cell RX.out 2
  have c3X := Row.cell RX.out 3
  have c4X := Row.cell RX.out 4
  go_wp2_with fail
  clear c0x c1x c2x c3x c4x c0X c1X c2X c3X c4X
  refine (c_eqBoolS (.slice pH g qH) (.slice pW g qW) gz _ (OwnH.reads OH.out).l (OwnH.reads OW.out).l (by rw [HNg.out]; have := HGB.out; omega)).mono ?_
  rintro e w3e ⟨rfl, nd, hnd⟩
  have hb : Below wH.heap.size wH w3e := by rw [hnd]; exact below_drewN (Below.refl _ _) nd
  clear hnd nd
  replace Rx := Lib.hid (Row.below Rx.out hb)
  replace RX := Lib.hid (Row.below RX.out hb)
  replace OW := Lib.hid (OwnH.below OW.out hb)
  replace OG := Lib.hid (OwnH.below OG.out hb)
  replace OH := Lib.hid (OwnH.below OH.out hb)
  have S17 : Hid (wH.heap.size ≤ w3e.heap.size) := hb.size
  replace L := Lib.hid (bst L.out hb L.out.size)
  clear hb
  have c0x := Row.cell Rx.out 0
  have c1x := Row.cell Rx.out 1
  have c2x := Row.cell Rx.out 2
  have c3x := Row.cell Rx.out 3
  have c4x := Row.cell Rx.out 4
  have c0X := Row.cell RX.out 0
  have c1X := Row.cell RX.out 1
  have c2X := Row.cell RX.out 2
  have c3X := Row.cell RX.out 3
  have c4X := Row.cell RX.out 4
  go_wp2_with fail
  clear c0x c1x c2x c3x c4x c0X c1X c2X c3X c4X
  refine (c_heldBoolS (.slice pG g qG) g 1 _ (OwnH.reads OG.out).l (by omega) (by have := HGB.out; omega)).mono ?_
  rintro e wh2 ⟨rfl, hw⟩
  have hb : Below w3e.heap.size w3e wh2 := by rw [← hw]; exact Below.refl _ _
  clear hw
  replace Rx := Lib.hid (Row.below Rx.out hb)
  replace RX := Lib.hid (Row.below RX.out hb)
  replace OW := Lib.hid (OwnH.below OW.out hb)
  replace OG := Lib.hid (OwnH.below OG.out hb)
  replace OH := Lib.hid (OwnH.below OH.out hb)
  have S18 : Hid (w3e.heap.size ≤ wh2.heap.size) := hb.size
  replace L := Lib.hid (bst L.out hb L.out.size)
  clear hb
  have c0x := Row.cell Rx.out 0
  have c1x := Row.cell Rx.out 1
  have c2x := Row.cell Rx.out 2
  have c3x := Row.cell Rx.out 3
  have c4x := Row.cell Rx.out 4
  have c0X := Row.cell RX.out 0
  have c1X := Row.cell RX.out 1
  have c2X := Row.cell RX.out 2
  have c3X := Row.cell RX.out 3
  have c4X := Row.cell RX.out 4
  go_wp2_with fail
  clear c0x c1x c2x c3x c4x c0X c1X c2X c3X c4X
  go_ret
  exact ⟨rfl, L.out⟩
set_option maxHeartbeats 1600000 in
set_option maxRecDepth 100000 in
theorem walk_FnExactMinorKeeps (ax bx cx ox kx : Value) (hx : H) (sx : List Bool) (zx : List Int) (w : World) (hzx : HeapAt w ax bx cx hx) (hox : BoolsAt w ox sx) (hyx : IntsAt w kx zx) (hfx : FitH hx) (hsx : sx.length ≤ 9223372036854775807) (hnx : zx.length ≤ 9223372036854775807) : Calls Try.prog 12 #[av ax bx cx ox kx] w fun e w' => e = .returned (.bool true) ∧ Below w.heap.size w w' := by
  by_cases hm : wtH hx + sx.length + zx.length ≤ 1048576
  · exact core_FnExactMinorKeeps ax bx cx ox kx hx sx zx (keptR9 hx sx zx) (agesB hx sx zx) w hzx hox hyx hm (keptR9_len hx sx zx) (fun w a b c o k h1 h2 h3 => s_MinorKeeps a b c o k hx sx zx w h1 h2 h3 (by omega)) (fun w a b c o k h1 h2 h3 => c_MinorKeeps a b c o k hx sx zx w h1 h2 h3 (by omega))
  · have HB0 := Lib.hid (below1 w (.cells (a5 ax bx cx ox kx) 66))
    have HA0 := Lib.hid (hzx.below HB0.out)
    have HF := Lib.hid hfx
    have HMM : Hid ((1048576 : Int) < (wtH hx : Int) + (sx.length : Int) + (zx.length : Int)) := by unfold Hid; omega
    have HY0 := Lib.hid (hyx.below HB0.out)
    have HNX := Lib.hid hnx
    have HO0 := Lib.hid (hox.below HB0.out)
    have HSX := Lib.hid hsx
    have HC := Lib.hid (c_szAges_no _ _ _ _ _ hx sx zx 1048576 _ HA0.out HF.out HO0.out HSX.out HY0.out HNX.out (by omega) (by omega) HMM.out)
    clear hzx hox hyx hsx hnx HNX HSX HY0 HO0 HA0 hfx HF HMM hm
    go_enter Try.func12, Try.ntmps12
    go_wp2_with fail
    refine HC.out.mono ?_
    rintro e w1 ⟨rfl, hb1⟩
    have HB1 := Lib.hid (bst HB0.out hb1 HB0.out.size)
    clear hb1 HC
    go_wp2
    go_ret
    exact ⟨rfl, HB1.out⟩
end Go.Proofs.Ytbmfkgfmibpkjaa
namespace Go.Proofs.Ytbmfkgfmibpkjaa.xMinorKeeps
open Go.ChangeShapes Go.WideShapes Go.ChangeAt Go.RowKit

set_option maxRecDepth 100000 in
theorem contract (H : Type) (enc : TypeId × Value → H) (W : World) (base : Nat) (args : Array Value) (ds gs : List (DataW H)) (before : List MemPlace)
    (hval : ∀ (j : Nat) t v, Try.f12.params[j]? = some t → args[j]? = some v → Value.okWide Try.prog W .any base t v)
    (hW : DataW.Whole enc Try.prog Try.f12.params.toList Rows.fnExactMinorKeepsSpec.vars false W args.toList ds gs before) :
    Calls Try.prog 12 args W fun e W' => ∃ v, e = .returned v ∧ Rows.fnExactMinorKeepsSpec.post enc Try.prog Try.f12 false true false false W args v W' := by
  have hW' := hW
  obtain ⟨p, q, hA0, hV, rfl, hfz, hnd⟩ := hW
  have hA : DataW.TrodAll enc Try.prog W 0 (fun _ => true) true Try.f12.params.toList args.toList ds p := hA0
  have hpar : ∀ t ∈ Try.f12.params.toList, Try.prog.readableRec t = true ∧ t < Try.prog.types.size := by
    rw [Try.params12]; intro t ht; simp at ht; subst ht; exact r_ages
  rw [Try.params12] at hA hval
  obtain ⟨v0, vs0, d0, ds0, p0, q0, hargs, rfl, rfl, h0, r0⟩ := trodAll_cons hA
  obtain ⟨rfl, rfl, rfl⟩ := trodAll_nil r0
  obtain rfl : args = #[v0] := by cases args; simp_all
  obtain ⟨rfl, rfl⟩ := trodVars_none hV
  obtain ⟨fa0, fb0, fc0, fd0, fe0, z0, x0, y0, rfl, hz0, hx0, hy0, hn0, hm0, hk0⟩ := ages_of_arg (hval 0 66 v0 rfl rfl) h0
  refine (walk_FnExactMinorKeeps fa0 fb0 fc0 fd0 fe0 z0 x0 y0 W hz0 hx0 hy0 hn0 hm0 hk0).mono fun e W' ⟨he, hb⟩ => ?_
  subst he
  exact ⟨_, rfl, law_post laidOut hpar (fun n hn => by cases hn) hW' hb rfl (by kernel_rfl) Try.underlying4⟩

set_option maxRecDepth 100000 in
theorem lifted (os : Os) (started : os.Started) (H : Type) (enc : TypeId × Value → H) :
    ReturnsInHanded {} Try.checked os 12 .any (Rows.fnExactMinorKeepsSpec.pre6 enc Try.prog Try.f12 Rows.fnExactMinorKeepsRow.domain false) (Rows.fnExactMinorKeepsSpec.post enc Try.prog Try.f12 false true false false) := by
  refine returnsInHanded_of_change (C := Try.checked) own started (by kernel_rfl) Try.func12
    (ChangeSpec.witness6 (enc := enc) (C := Try.checked) false ⟨#[], #[.agg #[.slice none 0 0, .slice none 0 0, .slice none 0 0, .slice none 0 0, .slice none 0 0]], []⟩ 8 (by kernel_rfl) (by kernel_rfl) (by kernel_rfl) (by kernel_rfl)) ?_
  intro W base args ds gs before hval hW _ _
  exact contract H enc W base args ds gs before hval hW
end Go.Proofs.Ytbmfkgfmibpkjaa.xMinorKeeps
namespace Go.Proofs.Ytbmfkgfmibpkjaa
theorem xMinorKeeps_said : Rows.FnExactMinorKeepsSaid :=
  OpenClaim.holds_of_wide 12 Try.f12 rfl rfl rfl rfl rfl rfl rfl ⟨rfl, rfl, rfl, rfl, rfl⟩ rfl rfl rfl rfl rfl (by kernel_rfl) Try.func12 (by kernel_rfl)
    (of_decide_eq_true (by kernel_rfl)) (by unfold Func.isWrapper; first | (rw [if_pos (by decide +kernel)]; kernel_rfl) | (rw [if_neg (by decide +kernel)]; exact ⟨rfl, rfl⟩))
    (fun os started H enc _ => xMinorKeeps.lifted os started H enc)
end Go.Proofs.Ytbmfkgfmibpkjaa
