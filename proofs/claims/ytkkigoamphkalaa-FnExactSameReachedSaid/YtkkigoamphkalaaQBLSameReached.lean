/- laws.FnExactSameReached: for every input the law answers true, and the input reads as it did. No condition. -/
import Derived.Test.YtkkigoamphkalaaQB2
namespace Go.Proofs.Ytkkigoamphkalaa
open Go.RowKit Ph

set_option maxHeartbeats 12800000 in
set_option maxRecDepth 100000 in
theorem core_FnExactSameReached (ax bx cx : Value) (hx : H) (az bz cz : Value) (hz : H) (b1 b2 : Bool) (w : World) (hzx : HeapAt w ax bx cx hx) (hzz : HeapAt w az bz cz hz) (hm : wtH hx + wtH hz ≤ 1048576)
    (hS : ∀ (w : World) (ax bx cx : Value) (az bz cz : Value), HeapAt w ax bx cx hx → HeapAt w az bz cz hz → Calls Try.prog 31 #[hv ax bx cx, hv az bz cz] w (fun e w' => e = .returned (.tuple #[.bool b1, .bool b2]) ∧ Below w.heap.size w w'))
    (hI : ∀ (w : World) (ax bx cx : Value) (az bz cz : Value), HeapAt w ax bx cx hx → HeapAt w az bz cz hz → Calls Try.prog 32 #[hv ax bx cx, hv az bz cz] w (fun e w' => e = .returned (.tuple #[.bool b1, .bool b2]) ∧ Below w.heap.size w w')) :
    Calls Try.prog 6 #[hv ax bx cx, hv az bz cz] w fun e w' => e = .returned (.bool true) ∧ Below w.heap.size w w' := by
  have HZx := Lib.hid hzx
  have HZz := Lib.hid hzz
  have HS := Lib.hid hS; have HI := Lib.hid hI
  clear hS hI
  obtain ⟨paAx, qaAx, rfl⟩ := hzx.f.shape
  obtain ⟨pbAx, qbAx, rfl⟩ := hzx.l.shape
  obtain ⟨pcAx, qcAx, rfl⟩ := hzx.r.shape
  obtain ⟨paAz, qaAz, rfl⟩ := hzz.f.shape
  obtain ⟨pbAz, qbAz, rfl⟩ := hzz.l.shape
  obtain ⟨pcAz, qcAz, rfl⟩ := hzz.r.shape
  clear hzx
  clear hzz
  have HSZx : Hid (szM hx ≤ 1048576 ∧ hx.f.length ≤ 1048576) := by unfold Hid szM; have := hm; unfold wtH wt at this; omega
  have HSZz : Hid (szM hz ≤ 1048576 ∧ hz.f.length ≤ 1048576) := by unfold Hid szM; have := hm; unfold wtH wt at this; omega
  generalize hwtx : wtH hx = wtx at *
  have HWTx := Lib.hid hwtx; clear hwtx
  generalize hnnfx : hx.f.length = nfx at *
  have HNnfx := Lib.hid hnnfx; clear hnnfx
  generalize hnnlx : hx.l.length = nlx at *
  have HNnlx := Lib.hid hnnlx; clear hnnlx
  generalize hnnrx : hx.r.length = nrx at *
  have HNnrx := Lib.hid hnnrx; clear hnnrx
  generalize hszx : szM hx = szx at *
  have HSMx := Lib.hid hszx; clear hszx
  generalize hwtz : wtH hz = wtz at *
  have HWTz := Lib.hid hwtz; clear hwtz
  generalize hnnfz : hz.f.length = nfz at *
  have HNnfz := Lib.hid hnnfz; clear hnnfz
  generalize hnnlz : hz.l.length = nlz at *
  have HNnlz := Lib.hid hnnlz; clear hnnlz
  generalize hnnrz : hz.r.length = nrz at *
  have HNnrz := Lib.hid hnnrz; clear hnnrz
  generalize hszz : szM hz = szz at *
  have HSMz := Lib.hid hszz; clear hszz
  have HMx : Hid (wtH hx ≤ 1048576) := by unfold Hid; rw [HWTx.out]; omega
  have HMz : Hid (wtH hz ≤ 1048576) := by unfold Hid; rw [HWTz.out]; omega
  have hl0x : ¬ ((1048576 : Int) - (wtx : Int)) < 0 := by omega
  have hl0z : ¬ ((1048576 : Int) - (wtx : Int) - (wtz : Int)) < 0 := by omega
  have e1 : (b1 != b1) = false := by simp
  have e2 : (b2 != b2) = false := by simp
  have L := below1 w (.cells (c3 (.slice paAx nfx qaAx) (.slice pbAx nlx qbAx) (.slice pcAx nrx qcAx)) 26)
  replace L := Below.alloc L L.size (.cells (c3 (.slice paAz nfz qaAz) (.slice pbAz nlz qbAz) (.slice pcAz nrz qcAz)) 26)
  have Rx : Row _ w.heap.size 26 (c3 (.slice paAx nfx qaAx) (.slice pbAx nlx qbAx) (.slice pcAx nrx qcAx)) := (Row.new w _ _).alloc (.cells (c3 (.slice paAz nfz qaAz) (.slice pbAz nlz qbAz) (.slice pcAz nrz qcAz)) 26)
  have Rz : Row _ (w.heap.size + 1) 26 (c3 (.slice paAz nfz qaAz) (.slice pbAz nlz qbAz) (.slice pcAz nrz qcAz)) := Row.new1 w (.cells (c3 (.slice paAx nfx qaAx) (.slice pbAx nlx qbAx) (.slice pcAx nrx qcAx)) 26) _ _
  go_enter Try.func6, Try.ntmps6
  go_wp2_with fail
  refine (c_szHeap_yes (.slice paAx nfx qaAx) (.slice pbAx nlx qbAx) (.slice pcAx nrx qcAx) hx (1048576) _ (HeapAt.below HZx.out L) (by omega) (by rw [HWTx.out]; omega)).mono ?_
  rintro e wsx ⟨rfl, hb⟩
  rw [HWTx.out]
  replace Rx := Row.below Rx hb
  replace Rz := Row.below Rz hb
  have hs0 := hb.size
  try simp only [World.size_alloc] at hs0
  replace L := bst L hb L.size
  clear hb
  have c0x := Row.cell Rx 0
  have c1x := Row.cell Rx 1
  have c2x := Row.cell Rx 2
  have ltx := Row.lt Rx
  have c0z := Row.cell Rz 0
  have c1z := Row.cell Rz 1
  have c2z := Row.cell Rz 2
  have ltz := Row.lt Rz
  go_wp2_with fail
  clear c0x c1x c2x ltx c0z c1z c2z ltz
  refine (c_szHeap_yes (.slice paAz nfz qaAz) (.slice pbAz nlz qbAz) (.slice pcAz nrz qcAz) hz (1048576 - (wtx : Int)) _ (HeapAt.below HZz.out L) (by omega) (by rw [HWTz.out]; omega)).mono ?_
  rintro e wsz ⟨rfl, hb⟩
  rw [HWTz.out]
  replace Rx := Row.below Rx hb
  replace Rz := Row.below Rz hb
  have hs1 := hb.size
  try simp only [World.size_alloc] at hs1
  replace L := bst L hb L.size
  clear hb
  have c0x := Row.cell Rx 0
  have c1x := Row.cell Rx 1
  have c2x := Row.cell Rx 2
  have ltx := Row.lt Rx
  have c0z := Row.cell Rz 0
  have c1z := Row.cell Rz 1
  have c2z := Row.cell Rz 2
  have ltz := Row.lt Rz
  go_wp2_with fail
  have RR10 : wsz.drew.cell? ⟨w.heap.size, 0, none⟩ = some (.slice paAx nfx qaAx) := Row.cell Rx 0
  have RR11 : wsz.drew.cell? ⟨w.heap.size, 1, none⟩ = some (.slice pbAx nlx qbAx) := Row.cell Rx 1
  have RR12 : wsz.drew.cell? ⟨w.heap.size, 2, none⟩ = some (.slice pcAx nrx qcAx) := Row.cell Rx 2
  have RR20 : wsz.drew.cell? ⟨w.heap.size + 1, 0, none⟩ = some (.slice paAz nfz qaAz) := Row.cell Rz 0
  have RR21 : wsz.drew.cell? ⟨w.heap.size + 1, 1, none⟩ = some (.slice pbAz nlz qbAz) := Row.cell Rz 1
  have RR22 : wsz.drew.cell? ⟨w.heap.size + 1, 2, none⟩ = some (.slice pcAz nrz qcAz) := Row.cell Rz 2
  have BD := below_drew (Below.refl wsz.heap.size wsz)
  clear c0x c1x c2x ltx c0z c1z c2z ltz
  have KZx : Hid (∀ w', Below wsz.heap.size wsz w' → HeapAt w' (.slice paAx nfx qaAx) (.slice pbAx nlx qbAx) (.slice pcAx nrx qcAx) hx) := fun w' h => (HeapAt.below HZx.out L).below h
  have KZz : Hid (∀ w', Below wsz.heap.size wsz w' → HeapAt w' (.slice paAz nfz qaAz) (.slice pbAz nlz qbAz) (.slice pcAz nrz qcAz) hz) := fun w' h => (HeapAt.below HZz.out L).below h
  refine wp_region_held_drew (S := (fun w' => w'.cell? ⟨w.heap.size, 0, none⟩ = some (.slice paAx nfx qaAx) ∧ w'.cell? ⟨w.heap.size, 1, none⟩ = some (.slice pbAx nlx qbAx) ∧ w'.cell? ⟨w.heap.size, 2, none⟩ = some (.slice pcAx nrx qcAx) ∧ w'.cell? ⟨w.heap.size + 1, 0, none⟩ = some (.slice paAz nfz qaAz) ∧ w'.cell? ⟨w.heap.size + 1, 1, none⟩ = some (.slice pbAz nlz qbAz) ∧ w'.cell? ⟨w.heap.size + 1, 2, none⟩ = some (.slice pcAz nrz qcAz) ∧ Below wsz.heap.size wsz w')) (by kernel_rfl) (⟨RR10, RR11, RR12, RR20, RR21, RR22, BD⟩) (fun hHeld => ?_)
  refine wpAnyH_take (i := 0) (v := ?va0x1) rfl (by kernel_rfl) (by kernel_rfl) (by kernel_rfl) (fun _ _ _ h => h) (Or.inl ⟨by rfl, ?hy0x1⟩) (by assumption) ?rest0x1
  case hy0x1 => (intro w hSw; (try dsimp only at hSw); go_simp; try with_reducible rfl)
  (try simp only [Act.put, List.getElem_toArray, List.getElem_cons_zero, List.setIfInBounds_toArray, List.set_cons_zero, List.set_cons_succ])
  refine wpAnyH_take (i := 2) (v := ?va2x2) rfl (by kernel_rfl) (by kernel_rfl) (by kernel_rfl) (fun _ _ _ h => h) (Or.inl ⟨by rfl, ?hy2x2⟩) (by assumption) ?rest2x2
  case hy2x2 => (intro w hSw; (try dsimp only at hSw); go_simp; try with_reducible rfl)
  (try simp only [Act.put, List.getElem_toArray, List.getElem_cons_zero, List.getElem_cons_succ, List.setIfInBounds_toArray, List.set_cons_zero, List.set_cons_succ])
  refine wpAnyH_ready (rs := [1]) (by kernel_rfl) (by simp) ?_
  refine AllReadyH.cons rfl (fun K hK => ?_) AllReadyH.nil
  go_simp
  refine (c_toHeap (.slice paAx nfx qaAx) (.slice pbAx nlx qbAx) (.slice pcAx nrx qcAx) hx _ (KZx.out _ BD) HMx.out).mono ?_
  rintro e wq1 ⟨aq, bq, cq, rfl, hoq1, hbk1⟩
  have OQ1 := Lib.hid hoq1.reads
  clear hoq1
  replace BD := bst BD hbk1 BD.size
  replace RR10 := cellBelow hbk1 (Nat.le_refl _) RR10
  replace RR11 := cellBelow hbk1 (Nat.le_refl _) RR11
  replace RR12 := cellBelow hbk1 (Nat.le_refl _) RR12
  replace RR20 := cellBelow hbk1 (Nat.le_refl _) RR20
  replace RR21 := cellBelow hbk1 (Nat.le_refl _) RR21
  replace RR22 := cellBelow hbk1 (Nat.le_refl _) RR22
  refine hK.out _ _ ⟨RR10, RR11, RR12, RR20, RR21, RR22, BD⟩ (fun hHeld => ?_)
  clear hK K
  (try simp only [Act.put, List.getElem_toArray, List.getElem_cons_zero, List.getElem_cons_succ, List.setIfInBounds_toArray, List.set_cons_zero, List.set_cons_succ])
  refine wpAnyH_ready (rs := [3]) (by kernel_rfl) (by simp) ?_
  refine AllReadyH.cons rfl (fun K hK => ?_) AllReadyH.nil
  go_simp
  refine (c_toHeap (.slice paAz nfz qaAz) (.slice pbAz nlz qbAz) (.slice pcAz nrz qcAz) hz _ (KZz.out _ BD) HMz.out).mono ?_
  rintro e wq2 ⟨ar, br, cr, rfl, hoq2, hbk2⟩
  have OQ2 := Lib.hid hoq2.reads
  replace OQ1 := Lib.hid (OQ1.out.below hbk2)
  clear hoq2
  replace BD := bst BD hbk2 BD.size
  replace RR10 := cellBelow hbk2 (Nat.le_refl _) RR10
  replace RR11 := cellBelow hbk2 (Nat.le_refl _) RR11
  replace RR12 := cellBelow hbk2 (Nat.le_refl _) RR12
  replace RR20 := cellBelow hbk2 (Nat.le_refl _) RR20
  replace RR21 := cellBelow hbk2 (Nat.le_refl _) RR21
  replace RR22 := cellBelow hbk2 (Nat.le_refl _) RR22
  refine hK.out _ _ ⟨RR10, RR11, RR12, RR20, RR21, RR22, BD⟩ (fun hHeld => ?_)
  clear hK K
  (try simp only [Act.put, List.getElem_toArray, List.getElem_cons_zero, List.getElem_cons_succ, List.setIfInBounds_toArray, List.set_cons_zero, List.set_cons_succ])
  refine wpAnyH_ready (rs := [4]) (by kernel_rfl) (by simp) ?_
  refine AllReadyH.cons rfl (fun K hK => ?_) AllReadyH.nil
  go_simp
  refine (HS.out _ _ _ _ _ _ _ OQ1.out OQ2.out).mono ?_
  rintro e wW ⟨rfl, hbk3⟩
  replace BD := bst BD hbk3 BD.size
  replace RR10 := cellBelow hbk3 (Nat.le_refl _) RR10
  replace RR11 := cellBelow hbk3 (Nat.le_refl _) RR11
  replace RR12 := cellBelow hbk3 (Nat.le_refl _) RR12
  replace RR20 := cellBelow hbk3 (Nat.le_refl _) RR20
  replace RR21 := cellBelow hbk3 (Nat.le_refl _) RR21
  replace RR22 := cellBelow hbk3 (Nat.le_refl _) RR22
  refine hK.out _ _ ⟨RR10, RR11, RR12, RR20, RR21, RR22, BD⟩ (fun hHeld => ?_)
  clear hK K
  (try simp only [Act.put, List.getElem_toArray, List.getElem_cons_zero, List.getElem_cons_succ, List.setIfInBounds_toArray, List.set_cons_zero, List.set_cons_succ])
  refine wpAnyH_take (i := 5) (v := ?va5x3) rfl (by kernel_rfl) (by kernel_rfl) (by kernel_rfl) (fun _ _ _ h => h) (Or.inl ⟨by rfl, ?hy5x3⟩) (by assumption) ?rest5x3
  case hy5x3 => (intro w hSw; (try dsimp only at hSw); go_simp; try with_reducible rfl)
  (try simp only [Act.put, List.getElem_toArray, List.getElem_cons_zero, List.getElem_cons_succ, List.setIfInBounds_toArray, List.set_cons_zero, List.set_cons_succ])
  refine wpAnyH_take (i := 6) (v := ?va6x4) rfl (by kernel_rfl) (by kernel_rfl) (by kernel_rfl) (fun _ _ _ h => h) (Or.inl ⟨by rfl, ?hy6x4⟩) (by assumption) ?rest6x4
  case hy6x4 => (intro w hSw; (try dsimp only at hSw); go_simp; try with_reducible rfl)
  (try simp only [Act.put, List.getElem_toArray, List.getElem_cons_zero, List.getElem_cons_succ, List.setIfInBounds_toArray, List.set_cons_zero, List.set_cons_succ])
  refine wpAnyH_take (i := 7) (v := ?va7x5) rfl (by kernel_rfl) (by kernel_rfl) (by kernel_rfl) (fun _ _ _ h => h) (Or.inl ⟨by rfl, ?hy7x5⟩) (by assumption) ?rest7x5
  case hy7x5 => (intro w hSw; (try dsimp only at hSw); go_simp; try with_reducible rfl)
  (try simp only [Act.put, List.getElem_toArray, List.getElem_cons_zero, List.getElem_cons_succ, List.setIfInBounds_toArray, List.set_cons_zero, List.set_cons_succ])
  refine wpAnyH_take (i := 8) (v := ?va8x6) rfl (by kernel_rfl) (by kernel_rfl) (by kernel_rfl) (fun _ _ _ h => h) (Or.inl ⟨by rfl, ?hy8x6⟩) (by assumption) ?rest8x6
  case hy8x6 => (intro w hSw; (try dsimp only at hSw); go_simp; try with_reducible rfl)
  (try simp only [Act.put, List.getElem_toArray, List.getElem_cons_zero, List.getElem_cons_succ, List.setIfInBounds_toArray, List.set_cons_zero, List.set_cons_succ])
  refine wpAnyH_take (i := 9) (v := ?va9x7) rfl (by kernel_rfl) (by kernel_rfl) (by kernel_rfl) (fun _ _ _ h => h) (Or.inl ⟨by rfl, ?hy9x7⟩) (by assumption) ?rest9x7
  case hy9x7 => (intro w hSw; (try dsimp only at hSw); go_simp; try with_reducible rfl)
  (try simp only [Act.put, List.getElem_toArray, List.getElem_cons_zero, List.getElem_cons_succ, List.setIfInBounds_toArray, List.set_cons_zero, List.set_cons_succ])
  refine wpAnyH_done (by kernel_rfl) ?_ _
  have hb := BD
  clear BD OQ1 OQ2 hbk1 hbk2 hbk3 hHeld RR10 RR11 RR12 RR20 RR21 RR22 KZx KZz
  replace Rx := Row.below Rx hb
  replace Rz := Row.below Rz hb
  have hs2 := hb.size
  try simp only [World.size_alloc] at hs2
  replace L := bst L hb L.size
  clear hb
  have c0x := Row.cell Rx 0
  have c1x := Row.cell Rx 1
  have c2x := Row.cell Rx 2
  have ltx := Row.lt Rx
  have c0z := Row.cell Rz 0
  have c1z := Row.cell Rz 1
  have c2z := Row.cell Rz 2
  have ltz := Row.lt Rz
  go_wp2_with fail
  clear c0x c1x c2x ltx c0z c1z c2z ltz
  refine (c_toHeap (.slice paAx nfx qaAx) (.slice pbAx nlx qbAx) (.slice pcAx nrx qcAx) hx _ (HeapAt.below HZx.out L) HMx.out).mono ?_
  rintro e wXx ⟨aXx, bXx, cXx, rfl, ho, hb⟩
  try simp only [World.size_alloc] at ho
  have hsh := ho.shapes
  simp only [HNnfx.out, HNnlx.out, HNnrx.out] at hsh
  obtain ⟨⟨paXx, qaXx, rfl⟩, ⟨pbXx, qbXx, rfl⟩, ⟨pcXx, qcXx, rfl⟩⟩ := hsh
  replace Rx := Row.below Rx hb
  replace Rz := Row.below Rz hb
  have hs3 := hb.size
  try simp only [World.size_alloc] at hs3
  replace L := bst L hb L.size
  clear hb
  have OXx := ho
  clear ho
  have c0x := Row.cell Rx 0
  have c1x := Row.cell Rx 1
  have c2x := Row.cell Rx 2
  have ltx := Row.lt Rx
  have c0z := Row.cell Rz 0
  have c1z := Row.cell Rz 1
  have c2z := Row.cell Rz 2
  have ltz := Row.lt Rz
  go_wp2_with fail
  clear c0x c1x c2x ltx c0z c1z c2z ltz
  replace Rx := Row.alloc Rx (.cells (c3 (.slice paXx nfx qaXx) (.slice pbXx nlx qbXx) (.slice pcXx nrx qcXx)) 30)
  replace Rz := Row.alloc Rz (.cells (c3 (.slice paXx nfx qaXx) (.slice pbXx nlx qbXx) (.slice pcXx nrx qcXx)) 30)
  have RXx := Row.new wXx 30 (c3 (.slice paXx nfx qaXx) (.slice pbXx nlx qbXx) (.slice pcXx nrx qcXx))
  replace OXx := OwnH.below OXx (below1 _ (.cells (c3 (.slice paXx nfx qaXx) (.slice pbXx nlx qbXx) (.slice pcXx nrx qcXx)) 30))
  replace L := Below.alloc L L.size (.cells (c3 (.slice paXx nfx qaXx) (.slice pbXx nlx qbXx) (.slice pcXx nrx qcXx)) 30)
  refine (c_toHeap (.slice paAz nfz qaAz) (.slice pbAz nlz qbAz) (.slice pcAz nrz qcAz) hz _ (HeapAt.below HZz.out L) HMz.out).mono ?_
  rintro e wXz ⟨aXz, bXz, cXz, rfl, ho, hb⟩
  try simp only [World.size_alloc] at ho
  have hsh := ho.shapes
  simp only [HNnfz.out, HNnlz.out, HNnrz.out] at hsh
  obtain ⟨⟨paXz, qaXz, rfl⟩, ⟨pbXz, qbXz, rfl⟩, ⟨pcXz, qcXz, rfl⟩⟩ := hsh
  replace Rx := Row.below Rx hb
  replace Rz := Row.below Rz hb
  replace RXx := Row.below RXx hb
  replace OXx := OwnH.below OXx hb
  have hs4 := hb.size
  try simp only [World.size_alloc] at hs4
  replace L := bst L hb L.size
  clear hb
  have OXz := ho
  clear ho
  have c0x := Row.cell Rx 0
  have c1x := Row.cell Rx 1
  have c2x := Row.cell Rx 2
  have ltx := Row.lt Rx
  have c0z := Row.cell Rz 0
  have c1z := Row.cell Rz 1
  have c2z := Row.cell Rz 2
  have ltz := Row.lt Rz
  have c0Xx := Row.cell RXx 0
  have c1Xx := Row.cell RXx 1
  have c2Xx := Row.cell RXx 2
  have ltXx := Row.lt RXx
  go_wp2_with fail
  clear c0x c1x c2x ltx c0z c1z c2z ltz c0Xx c1Xx c2Xx ltXx
  replace Rx := Row.alloc Rx (.cells (c3 (.slice paXz nfz qaXz) (.slice pbXz nlz qbXz) (.slice pcXz nrz qcXz)) 30)
  replace Rz := Row.alloc Rz (.cells (c3 (.slice paXz nfz qaXz) (.slice pbXz nlz qbXz) (.slice pcXz nrz qcXz)) 30)
  replace RXx := Row.alloc RXx (.cells (c3 (.slice paXz nfz qaXz) (.slice pbXz nlz qbXz) (.slice pcXz nrz qcXz)) 30)
  have RXz := Row.new wXz 30 (c3 (.slice paXz nfz qaXz) (.slice pbXz nlz qbXz) (.slice pcXz nrz qcXz))
  replace OXx := OwnH.below OXx (below1 _ (.cells (c3 (.slice paXz nfz qaXz) (.slice pbXz nlz qbXz) (.slice pcXz nrz qcXz)) 30))
  replace OXz := OwnH.below OXz (below1 _ (.cells (c3 (.slice paXz nfz qaXz) (.slice pbXz nlz qbXz) (.slice pcXz nrz qcXz)) 30))
  replace L := Below.alloc L L.size (.cells (c3 (.slice paXz nfz qaXz) (.slice pbXz nlz qbXz) (.slice pcXz nrz qcXz)) 30)
  refine (HI.out _ (.slice paXx nfx qaXx) (.slice pbXx nlx qbXx) (.slice pcXx nrx qcXx) (.slice paXz nfz qaXz) (.slice pbXz nlz qbXz) (.slice pcXz nrz qcXz) OXx.reads OXz.reads).mono ?_
  rintro e wG ⟨rfl, hb⟩
  replace Rx := Row.below Rx hb
  replace Rz := Row.below Rz hb
  replace RXx := Row.below RXx hb
  replace RXz := Row.below RXz hb
  replace OXx := OwnH.below OXx hb
  replace OXz := OwnH.below OXz hb
  have hs5 := hb.size
  try simp only [World.size_alloc] at hs5
  replace L := bst L hb L.size
  clear hb
  have c0x := Row.cell Rx 0
  have c1x := Row.cell Rx 1
  have c2x := Row.cell Rx 2
  have ltx := Row.lt Rx
  have c0z := Row.cell Rz 0
  have c1z := Row.cell Rz 1
  have c2z := Row.cell Rz 2
  have ltz := Row.lt Rz
  have c0Xx := Row.cell RXx 0
  have c1Xx := Row.cell RXx 1
  have c2Xx := Row.cell RXx 2
  have ltXx := Row.lt RXx
  have c0Xz := Row.cell RXz 0
  have c1Xz := Row.cell RXz 1
  have c2Xz := Row.cell RXz 2
  have ltXz := Row.lt RXz
  go_wp2_with fail
  have RR0 : wG.drew.cell? ⟨w.heap.size, 0, none⟩ = some (.slice paAx nfx qaAx) := Row.cell Rx 0
  have RR1 : wG.drew.cell? ⟨w.heap.size, 1, none⟩ = some (.slice pbAx nlx qbAx) := Row.cell Rx 1
  have RR2 : wG.drew.cell? ⟨w.heap.size, 2, none⟩ = some (.slice pcAx nrx qcAx) := Row.cell Rx 2
  have RX0 : wG.drew.cell? ⟨wXx.heap.size, 0, none⟩ = some (.slice paXx nfx qaXx) := Row.cell RXx 0
  have RX1 : wG.drew.cell? ⟨wXx.heap.size, 1, none⟩ = some (.slice pbXx nlx qbXx) := Row.cell RXx 1
  have RX2 : wG.drew.cell? ⟨wXx.heap.size, 2, none⟩ = some (.slice pcXx nrx qcXx) := Row.cell RXx 2
  have BD := below_drew (Below.refl wG.heap.size wG)
  have IZ := Lib.hid (HeapAt.below HZx.out (below_drew L))
  have IX := Lib.hid (OXx.reads.below BD)
  clear c0x c1x c2x ltx c0z c1z c2z ltz c0Xx c1Xx c2Xx ltXx c0Xz c1Xz c2Xz ltXz
  go_region_held3 (fun w' => w'.cell? ⟨w.heap.size, 0, none⟩ = some (.slice paAx nfx qaAx) ∧ w'.cell? ⟨w.heap.size, 1, none⟩ = some (.slice pbAx nlx qbAx) ∧ w'.cell? ⟨w.heap.size, 2, none⟩ = some (.slice pcAx nrx qcAx) ∧ w'.cell? ⟨wXx.heap.size, 0, none⟩ = some (.slice paXx nfx qaXx) ∧ w'.cell? ⟨wXx.heap.size, 1, none⟩ = some (.slice pbXx nlx qbXx) ∧ w'.cell? ⟨wXx.heap.size, 2, none⟩ = some (.slice pcXx nrx qcXx) ∧ Below wG.heap.size wG w')
    (first
      | (with_reducible exact ⟨RR0, RR1, RR2, RX0, RX1, RX2, BD⟩)
      | (go_split_ands
         exact ⟨cellBelow hbk (Nat.le_refl _) (by assumption), cellBelow hbk (Nat.le_refl _) (by assumption), cellBelow hbk (Nat.le_refl _) (by assumption), cellBelow hbk (Nat.le_refl _) (by assumption), cellBelow hbk (Nat.le_refl _) (by assumption), cellBelow hbk (Nat.le_refl _) (by assumption), bst (by assumption) hbk (Below.size (by assumption))⟩)
      | (go_split_ands; refine ⟨?_, ?_, ?_, ?_, ?_, ?_, ?_⟩ <;> assumption))
    (first
      | (go_at_call 16; refine (c_toHeap (.slice paAx nfx qaAx) (.slice pbAx nlx qbAx) (.slice pcAx nrx qcAx) hx _ IZ.out HMx.out).mono ?_; rintro e wxd1 ⟨aD, bD, cD, rfl, hoD, hbk⟩; have OD := Lib.hid hoD.reads; have XD := Lib.hid (IX.out.below hbk); clear hoD)
      | (go_at_call 19; refine (c_eqHeap _ _ _ _ _ _ hx _ XD.out OD.out HMx.out).mono ?_; rintro e wxd2 ⟨rfl, hbk⟩))
  have hb : Below wG.heap.size wG wxd2 := by go_split_ands; assumption
  clear OD XD IZ IX RR0 RX0 RR1 RX1 RR2 RX2 BD
  replace Rx := Row.below Rx hb
  replace Rz := Row.below Rz hb
  replace RXx := Row.below RXx hb
  replace RXz := Row.below RXz hb
  replace OXx := OwnH.below OXx hb
  replace OXz := OwnH.below OXz hb
  have hs6 := hb.size
  try simp only [World.size_alloc] at hs6
  replace L := bst L hb L.size
  clear hb
  have c0x := Row.cell Rx 0
  have c1x := Row.cell Rx 1
  have c2x := Row.cell Rx 2
  have ltx := Row.lt Rx
  have c0z := Row.cell Rz 0
  have c1z := Row.cell Rz 1
  have c2z := Row.cell Rz 2
  have ltz := Row.lt Rz
  have c0Xx := Row.cell RXx 0
  have c1Xx := Row.cell RXx 1
  have c2Xx := Row.cell RXx 2
  have ltXx := Row.lt RXx
  have c0Xz := Row.cell RXz 0
  have c1Xz := Row.cell RXz 1
  have c2Xz := Row.cell RXz 2
  have ltXz := Row.lt RXz
  go_wp2_with fail
  have RR0 : wxd2.drew.cell? ⟨w.heap.size + 1, 0, none⟩ = some (.slice paAz nfz qaAz) := Row.cell Rz 0
  have RR1 : wxd2.drew.cell? ⟨w.heap.size + 1, 1, none⟩ = some (.slice pbAz nlz qbAz) := Row.cell Rz 1
  have RR2 : wxd2.drew.cell? ⟨w.heap.size + 1, 2, none⟩ = some (.slice pcAz nrz qcAz) := Row.cell Rz 2
  have RX0 : wxd2.drew.cell? ⟨wXz.heap.size, 0, none⟩ = some (.slice paXz nfz qaXz) := Row.cell RXz 0
  have RX1 : wxd2.drew.cell? ⟨wXz.heap.size, 1, none⟩ = some (.slice pbXz nlz qbXz) := Row.cell RXz 1
  have RX2 : wxd2.drew.cell? ⟨wXz.heap.size, 2, none⟩ = some (.slice pcXz nrz qcXz) := Row.cell RXz 2
  have BD := below_drew (Below.refl wxd2.heap.size wxd2)
  have IZ := Lib.hid (HeapAt.below HZz.out (below_drew L))
  have IX := Lib.hid (OXz.reads.below BD)
  clear c0x c1x c2x ltx c0z c1z c2z ltz c0Xx c1Xx c2Xx ltXx c0Xz c1Xz c2Xz ltXz
  go_region_held3 (fun w' => w'.cell? ⟨w.heap.size + 1, 0, none⟩ = some (.slice paAz nfz qaAz) ∧ w'.cell? ⟨w.heap.size + 1, 1, none⟩ = some (.slice pbAz nlz qbAz) ∧ w'.cell? ⟨w.heap.size + 1, 2, none⟩ = some (.slice pcAz nrz qcAz) ∧ w'.cell? ⟨wXz.heap.size, 0, none⟩ = some (.slice paXz nfz qaXz) ∧ w'.cell? ⟨wXz.heap.size, 1, none⟩ = some (.slice pbXz nlz qbXz) ∧ w'.cell? ⟨wXz.heap.size, 2, none⟩ = some (.slice pcXz nrz qcXz) ∧ Below wxd2.heap.size wxd2 w')
    (first
      | (with_reducible exact ⟨RR0, RR1, RR2, RX0, RX1, RX2, BD⟩)
      | (go_split_ands
         exact ⟨cellBelow hbk (Nat.le_refl _) (by assumption), cellBelow hbk (Nat.le_refl _) (by assumption), cellBelow hbk (Nat.le_refl _) (by assumption), cellBelow hbk (Nat.le_refl _) (by assumption), cellBelow hbk (Nat.le_refl _) (by assumption), cellBelow hbk (Nat.le_refl _) (by assumption), bst (by assumption) hbk (Below.size (by assumption))⟩)
      | (go_split_ands; refine ⟨?_, ?_, ?_, ?_, ?_, ?_, ?_⟩ <;> assumption))
    (first
      | (go_at_call 16; refine (c_toHeap (.slice paAz nfz qaAz) (.slice pbAz nlz qbAz) (.slice pcAz nrz qcAz) hz _ IZ.out HMz.out).mono ?_; rintro e wzd1 ⟨aD, bD, cD, rfl, hoD, hbk⟩; have OD := Lib.hid hoD.reads; have XD := Lib.hid (IX.out.below hbk); clear hoD)
      | (go_at_call 19; refine (c_eqHeap _ _ _ _ _ _ hz _ XD.out OD.out HMz.out).mono ?_; rintro e wzd2 ⟨rfl, hbk⟩))
  have hb : Below wxd2.heap.size wxd2 wzd2 := by go_split_ands; assumption
  clear OD XD IZ IX RR0 RX0 RR1 RX1 RR2 RX2 BD
  replace Rx := Row.below Rx hb
  replace Rz := Row.below Rz hb
  replace RXx := Row.below RXx hb
  replace RXz := Row.below RXz hb
  replace OXx := OwnH.below OXx hb
  replace OXz := OwnH.below OXz hb
  have hs7 := hb.size
  try simp only [World.size_alloc] at hs7
  replace L := bst L hb L.size
  clear hb
  have c0x := Row.cell Rx 0
  have c1x := Row.cell Rx 1
  have c2x := Row.cell Rx 2
  have ltx := Row.lt Rx
  have c0z := Row.cell Rz 0
  have c1z := Row.cell Rz 1
  have c2z := Row.cell Rz 2
  have ltz := Row.lt Rz
  have c0Xx := Row.cell RXx 0
  have c1Xx := Row.cell RXx 1
  have c2Xx := Row.cell RXx 2
  have ltXx := Row.lt RXx
  have c0Xz := Row.cell RXz 0
  have c1Xz := Row.cell RXz 1
  have c2Xz := Row.cell RXz 2
  have ltXz := Row.lt RXz
  go_wp2
  go_ret
  exact ⟨rfl, L⟩
set_option maxHeartbeats 1600000 in
set_option maxRecDepth 100000 in
theorem walk_FnExactSameReached (ax bx cx : Value) (hx : H) (az bz cz : Value) (hz : H) (w : World) (hzx : HeapAt w ax bx cx hx) (hzz : HeapAt w az bz cz hz) (hfx : FitH hx) (hfz : FitH hz) : Calls Try.prog 6 #[hv ax bx cx, hv az bz cz] w fun e w' => e = .returned (.bool true) ∧ Below w.heap.size w w' := by
  by_cases hm : wtH hx + wtH hz ≤ 1048576
  · exact core_FnExactSameReached ax bx cx hx az bz cz hz (sameQ hx hz) (both hx hz) w hzx hzz hm (fun w a b c a' b' c' h h' => s_SameReached a b c a' b' c' hx hz w h h') (fun w a b c a' b' c' h h' => c_SameReached a b c a' b' c' hx hz w h h')
  · have HB0 := Lib.hid ((below1 w (.cells (c3 ax bx cx) 26)).alloc (by simp) (.cells (c3 az bz cz) 26))
    have HX0 := Lib.hid (hzx.below HB0.out); have HY0 := Lib.hid (hzz.below HB0.out)
    have RY := Lib.hid (show Row _ (w.heap.size + 1) 26 (c3 az bz cz) from Row.new1 w (.cells (c3 ax bx cx) 26) 26 (c3 az bz cz))
    have FX := Lib.hid hfx; have FY := Lib.hid hfz
    clear hfx hfz
    obtain ⟨pxa, qxa, rfl⟩ := hzx.f.shape
    obtain ⟨pxb, qxb, rfl⟩ := hzx.l.shape
    obtain ⟨pxc, qxc, rfl⟩ := hzx.r.shape
    obtain ⟨pya, qya, rfl⟩ := hzz.f.shape
    obtain ⟨pyb, qyb, rfl⟩ := hzz.l.shape
    obtain ⟨pyc, qyc, rfl⟩ := hzz.r.shape
    by_cases hm1 : wtH hx ≤ 1048576
    · have HC := Lib.hid (c_szHeap_yes _ _ _ hx 1048576 _ HX0.out (by omega) (by omega))
      have HD : Hid (∀ w', HeapAt w' (.slice pya hz.f.length qya) (.slice pyb hz.l.length qyb) (.slice pyc hz.r.length qyc) hz → Calls Try.prog 14 #[hv (.slice pya hz.f.length qya) (.slice pyb hz.l.length qyb) (.slice pyc hz.r.length qyc), .int .i64 (1048576 - wtH hx)] w' fun e w'' => e = .returned (.int .i64 (-1)) ∧ Below w'.heap.size w' w'') := fun w' hh => c_szHeap_no _ _ _ hz (1048576 - wtH hx) w' hh FY.out (by omega) (by omega) (by omega)
      have hl0 : ¬ ((1048576 : Int) - (wtH hx : Int)) < 0 := by omega
      clear hzx hzz hm
      generalize wtH hx = wx at *
      generalize hx.f.length = n1 at *
      generalize hx.l.length = n2 at *
      generalize hx.r.length = n3 at *
      generalize hz.f.length = m1 at *
      generalize hz.l.length = m2 at *
      generalize hz.r.length = m3 at *
      go_enter Try.func6, Try.ntmps6
      go_wp2_with fail
      refine HC.out.mono ?_
      rintro e w1 ⟨rfl, hb1⟩
      have HB1 := Lib.hid (bst HB0.out hb1 HB0.out.size); have HY1 := Lib.hid (HY0.out.below hb1)
      have RY1 := Row.below RY.out hb1
      have d0 := Row.cell RY1 0
      have d1 := Row.cell RY1 1
      have d2 := Row.cell RY1 2
      clear hb1 HC RY1
      go_wp2_with fail
      refine (HD.out _ HY1.out).mono ?_
      rintro e w2 ⟨rfl, hb2⟩
      have HB2 := Lib.hid (bst HB1.out hb2 HB1.out.size)
      clear hb2 HD d0 d1 d2
      go_wp2_with fail
      go_ret
      exact ⟨rfl, HB2.out⟩
    · have HC := Lib.hid (c_szHeap_no _ _ _ hx 1048576 _ HX0.out FX.out (by omega) (by omega) (by omega))
      clear hzx hzz hm hm1
      generalize hx.f.length = n1 at *
      generalize hx.l.length = n2 at *
      generalize hx.r.length = n3 at *
      generalize hz.f.length = m1 at *
      generalize hz.l.length = m2 at *
      generalize hz.r.length = m3 at *
      go_enter Try.func6, Try.ntmps6
      go_wp2_with fail
      refine HC.out.mono ?_
      rintro e w1 ⟨rfl, hb1⟩
      have HB1 := Lib.hid (bst HB0.out hb1 HB0.out.size)
      clear hb1 HC
      go_wp2_with fail
      go_ret
      exact ⟨rfl, HB1.out⟩
end Go.Proofs.Ytkkigoamphkalaa
namespace Go.Proofs.Ytkkigoamphkalaa.xSameReached
open Go.ChangeShapes Go.WideShapes Go.ChangeAt Go.RowKit

set_option maxRecDepth 100000 in
theorem contract (H : Type) (enc : TypeId × Value → H) (W : World) (base : Nat) (args : Array Value) (ds gs : List (DataW H)) (before : List MemPlace)
    (hval : ∀ (j : Nat) t v, Try.f6.params[j]? = some t → args[j]? = some v → Value.okWide Try.prog W .any base t v)
    (hW : DataW.Whole enc Try.prog Try.f6.params.toList Rows.fnExactSameReachedSpec.vars false W args.toList ds gs before) :
    Calls Try.prog 6 args W fun e W' => ∃ v, e = .returned v ∧ Rows.fnExactSameReachedSpec.post enc Try.prog Try.f6 false true false false W args v W' := by
  have hW' := hW
  obtain ⟨p, q, hA0, hV, rfl, hfz, hnd⟩ := hW
  have hA : DataW.TrodAll enc Try.prog W 0 (fun _ => true) true Try.f6.params.toList args.toList ds p := hA0
  have hpar : ∀ t ∈ Try.f6.params.toList, Try.prog.readableRec t = true ∧ t < Try.prog.types.size := by
    rw [Try.params6]; intro t ht; simp at ht; subst ht; exact r_heap
  rw [Try.params6] at hA hval
  obtain ⟨v0, vs0, d0, ds0, p0, q0, hargs, rfl, rfl, h0, r0⟩ := trodAll_cons hA
  obtain ⟨v1, vs1, d1, ds1, p1, q1, rfl, rfl, rfl, h1, r1⟩ := trodAll_cons r0
  obtain ⟨rfl, rfl, rfl⟩ := trodAll_nil r1
  obtain rfl : args = #[v0, v1] := by cases args; simp_all
  obtain ⟨rfl, rfl⟩ := trodVars_none hV
  obtain ⟨fa0, fb0, fc0, z0, rfl, hz0, hn0⟩ := heap_of_arg (hval 0 26 v0 rfl rfl) h0
  obtain ⟨fa1, fb1, fc1, z1, rfl, hz1, hn1⟩ := heap_of_arg (hval 1 26 v1 rfl rfl) h1
  refine (walk_FnExactSameReached fa0 fb0 fc0 z0 fa1 fb1 fc1 z1 W hz0 hz1 hn0 hn1).mono fun e W' ⟨he, hb⟩ => ?_
  subst he
  exact ⟨_, rfl, law_post laidOut hpar (fun n hn => by cases hn) hW' hb rfl (by kernel_rfl) Try.underlying4⟩

set_option maxRecDepth 100000 in
theorem lifted (os : Os) (started : os.Started) (H : Type) (enc : TypeId × Value → H) :
    ReturnsInHanded {} Try.checked os 6 .any (Rows.fnExactSameReachedSpec.pre6 enc Try.prog Try.f6 Rows.fnExactSameReachedRow.domain false) (Rows.fnExactSameReachedSpec.post enc Try.prog Try.f6 false true false false) := by
  refine returnsInHanded_of_change (C := Try.checked) own started (by kernel_rfl) Try.func6
    (ChangeSpec.witness6 (enc := enc) (C := Try.checked) false ⟨#[], #[.agg #[.slice none 0 0, .slice none 0 0, .slice none 0 0], .agg #[.slice none 0 0, .slice none 0 0, .slice none 0 0]], []⟩ 8 (by kernel_rfl) (by kernel_rfl) (by kernel_rfl) (by kernel_rfl)) ?_
  intro W base args ds gs before hval hW _ _
  exact contract H enc W base args ds gs before hval hW
end Go.Proofs.Ytkkigoamphkalaa.xSameReached
namespace Go.Proofs.Ytkkigoamphkalaa
theorem xSameReached_said : Rows.FnExactSameReachedSaid :=
  OpenClaim.holds_of_wide 6 Try.f6 rfl rfl rfl rfl rfl rfl rfl ⟨rfl, rfl, rfl, rfl, rfl⟩ rfl rfl rfl rfl rfl (by kernel_rfl) Try.func6 (by kernel_rfl)
    (of_decide_eq_true (by kernel_rfl)) (by unfold Func.isWrapper; first | (rw [if_pos (by decide +kernel)]; kernel_rfl) | (rw [if_neg (by decide +kernel)]; exact ⟨rfl, rfl⟩))
    (fun os started H enc _ => xSameReached.lifted os started H enc)
end Go.Proofs.Ytkkigoamphkalaa
