/- The walk of laws.FnExactIsSound. -/
import Derived.Test.YtdagkbgobnaijabHl5
import Derived.Test.YtdagkbgobnaijabCc5
import Derived.Test.YtdagkbgobnaijabCs4
import Derived.Test.YtdagkbgobnaijabCe1
namespace Go.Proofs.Ytdagkbgobnaijab
open Go.RowKit Ph

set_option maxHeartbeats 12800000 in
set_option maxRecDepth 100000 in
theorem core_FnExactIsSound (ax bx cx : Value) (hx : H) (vy : Value) (zy : List Int) (b1 b2 : Bool) (w : World) (hzx : HeapAt w ax bx cx hx) (hzy : IntsAt w vy zy)  (hm : wtH hx ≤ 1048576) (hly : zy.length ≤ 1048576)
    (hS : ∀ (w : World) (ax bx cx : Value) (vy : Value), HeapAt w ax bx cx hx → IntsAt w vy zy → Calls Try.prog 52 #[hv ax bx cx, vy] w (fun e w' => e = .returned (.tuple #[.bool b1, .bool b2]) ∧ Below w.heap.size w w'))
    (hI : ∀ (w : World) (ax bx cx : Value) (vy : Value), HeapAt w ax bx cx hx → IntsAt w vy zy → Calls Try.prog 35 #[hv ax bx cx, vy] w (fun e w' => e = .returned (.tuple #[.bool b1, .bool b2]) ∧ Below w.heap.size w w')) :
    Calls Try.prog 9 #[hv ax bx cx, vy] w fun e w' => e = .returned (.bool true) ∧ Below w.heap.size w w' := by
  have HZx := Lib.hid hzx
  have HZy := Lib.hid hzy
  have HS := Lib.hid hS; have HI := Lib.hid hI
  clear hS hI
  obtain ⟨paAx, qaAx, rfl⟩ := hzx.f.shape
  obtain ⟨pbAx, qbAx, rfl⟩ := hzx.l.shape
  obtain ⟨pcAx, qcAx, rfl⟩ := hzx.r.shape
  obtain ⟨pAy, qAy, rfl⟩ := hzy.shape
  clear hzx
  clear hzy
  have HSZx : Hid (szM hx ≤ 1048576 ∧ hx.f.length ≤ 1048576) := by unfold Hid szM; have := hm; unfold wtH wt at this; omega
  have HLy := Lib.hid hly
  generalize hwtx : wtH hx = wtx at *
  have HWTx := Lib.hid hwtx; clear hwtx
  generalize hnnfx : hx.f.length = nfx at *
  have HNnfx := Lib.hid hnnfx; clear hnnfx
  generalize hnnlx : hx.l.length = nlx at *
  have HNnlx := Lib.hid hnnlx; clear hnnlx
  generalize hnnrx : hx.r.length = nrx at *
  have HNnrx := Lib.hid hnnrx; clear hnnrx
  generalize hszx : szM hx = szx at *
  have HSMx := Lib.hid hszx; clear hszx
  have HMx : Hid (wtH hx ≤ 1048576) := by unfold Hid; rw [HWTx.out]; omega
  generalize hny : zy.length = ny at *
  have HNy := Lib.hid hny; clear hny
  have hby : ¬ ((1048576 : Int) < (ny : Int)) := by omega
  have hl0x : ¬ ((1048576 : Int) - (wtx : Int)) < 0 := by omega
  have e1 : (b1 != b1) = false := by simp
  have e2 : (b2 != b2) = false := by simp
  have L := below1 w (.cells (c3 (.slice paAx nfx qaAx) (.slice pbAx nlx qbAx) (.slice pcAx nrx qcAx)) 68)
  have Rx : Row _ w.heap.size 68 (c3 (.slice paAx nfx qaAx) (.slice pbAx nlx qbAx) (.slice pcAx nrx qcAx)) := Row.new w _ _
  go_enter Try.func9, Try.ntmps9
  go_wp2_with fail
  refine (c_szHeap_yes (.slice paAx nfx qaAx) (.slice pbAx nlx qbAx) (.slice pcAx nrx qcAx) hx (1048576) _ (HeapAt.below HZx.out L) (by omega) (by rw [HWTx.out]; omega)).mono ?_
  rintro e wsx ⟨rfl, hb⟩
  rw [HWTx.out]
  replace Rx := Row.below Rx hb
  have hs0 := hb.size
  try simp only [World.size_alloc] at hs0
  replace L := bst L hb L.size
  clear hb
  have c0x := Row.cell Rx 0
  have c1x := Row.cell Rx 1
  have c2x := Row.cell Rx 2
  have ltx := Row.lt Rx
  go_wp2_with fail
  clear c0x c1x c2x ltx
  refine (c_toHeap (.slice paAx nfx qaAx) (.slice pbAx nlx qbAx) (.slice pcAx nrx qcAx) hx _ (HeapAt.below HZx.out L) HMx.out).mono ?_
  rintro e wsx1 ⟨asx, bsx, csx, rfl, ho, hb⟩
  try simp only [World.size_alloc] at ho
  have hsh := ho.shapes
  simp only [HNnfx.out, HNnlx.out, HNnrx.out] at hsh
  obtain ⟨⟨pasx, qasx, rfl⟩, ⟨pbsx, qbsx, rfl⟩, ⟨pcsx, qcsx, rfl⟩⟩ := hsh
  replace Rx := Row.below Rx hb
  have hs1 := hb.size
  try simp only [World.size_alloc] at hs1
  replace L := bst L hb L.size
  clear hb
  have Osx := ho
  clear ho
  have c0x := Row.cell Rx 0
  have c1x := Row.cell Rx 1
  have c2x := Row.cell Rx 2
  have ltx := Row.lt Rx
  go_wp2_with fail
  clear c0x c1x c2x ltx
  refine (c_toIntS (.slice pAy ny qAy) zy _ (IntsAt.below HZy.out L) (by rw [HNy.out]; exact HLy.out)).mono ?_
  rintro e wsy1 ⟨csy, rfl, ho1, hb⟩
  have ho := OwnH.ofInts ho1 hb
  clear ho1
  try simp only [World.size_alloc] at ho
  have hsh := ho.shapes
  simp only [HNy.out] at hsh
  obtain ⟨_, _, ⟨pcsy, qcsy, rfl⟩⟩ := hsh
  replace Rx := Row.below Rx hb
  replace Osx := OwnH.below Osx hb
  have hs2 := hb.size
  try simp only [World.size_alloc] at hs2
  replace L := bst L hb L.size
  clear hb
  have Osy := ho
  clear ho
  have c0x := Row.cell Rx 0
  have c1x := Row.cell Rx 1
  have c2x := Row.cell Rx 2
  have ltx := Row.lt Rx
  go_wp2_with fail
  clear c0x c1x c2x ltx
  refine (HS.out _ (.slice pasx nfx qasx) (.slice pbsx nlx qbsx) (.slice pcsx nrx qcsx) (.slice pcsy ny qcsy) Osx.reads Osy.reads.r).mono ?_
  rintro e wW ⟨rfl, hb⟩
  replace Rx := Row.below Rx hb
  replace Osx := OwnH.below Osx hb
  replace Osy := OwnH.below Osy hb
  have hs3 := hb.size
  try simp only [World.size_alloc] at hs3
  replace L := bst L hb L.size
  clear hb
  clear Osx
  clear Osy
  have c0x := Row.cell Rx 0
  have c1x := Row.cell Rx 1
  have c2x := Row.cell Rx 2
  have ltx := Row.lt Rx
  go_wp2_with fail
  clear c0x c1x c2x ltx
  refine (c_toHeap (.slice paAx nfx qaAx) (.slice pbAx nlx qbAx) (.slice pcAx nrx qcAx) hx _ (HeapAt.below HZx.out L) HMx.out).mono ?_
  rintro e wXx ⟨aXx, bXx, cXx, rfl, ho, hb⟩
  try simp only [World.size_alloc] at ho
  have hsh := ho.shapes
  simp only [HNnfx.out, HNnlx.out, HNnrx.out] at hsh
  obtain ⟨⟨paXx, qaXx, rfl⟩, ⟨pbXx, qbXx, rfl⟩, ⟨pcXx, qcXx, rfl⟩⟩ := hsh
  replace Rx := Row.below Rx hb
  have hs4 := hb.size
  try simp only [World.size_alloc] at hs4
  replace L := bst L hb L.size
  clear hb
  have OXx := ho
  clear ho
  have c0x := Row.cell Rx 0
  have c1x := Row.cell Rx 1
  have c2x := Row.cell Rx 2
  have ltx := Row.lt Rx
  go_wp2_with fail
  clear c0x c1x c2x ltx
  replace Rx := Row.alloc Rx (.cells (c3 (.slice paXx nfx qaXx) (.slice pbXx nlx qbXx) (.slice pcXx nrx qcXx)) 27)
  have RXx := Row.new wXx 27 (c3 (.slice paXx nfx qaXx) (.slice pbXx nlx qbXx) (.slice pcXx nrx qcXx))
  replace OXx := OwnH.below OXx (below1 _ (.cells (c3 (.slice paXx nfx qaXx) (.slice pbXx nlx qbXx) (.slice pcXx nrx qcXx)) 27))
  replace L := Below.alloc L L.size (.cells (c3 (.slice paXx nfx qaXx) (.slice pbXx nlx qbXx) (.slice pcXx nrx qcXx)) 27)
  refine (c_toIntS (.slice pAy ny qAy) zy _ (IntsAt.below HZy.out L) (by rw [HNy.out]; exact HLy.out)).mono ?_
  rintro e wXy ⟨cXy, rfl, ho1, hb⟩
  have ho := OwnH.ofInts ho1 hb
  clear ho1
  try simp only [World.size_alloc] at ho
  have hsh := ho.shapes
  simp only [HNy.out] at hsh
  obtain ⟨_, _, ⟨pcXy, qcXy, rfl⟩⟩ := hsh
  replace Rx := Row.below Rx hb
  replace RXx := Row.below RXx hb
  replace OXx := OwnH.below OXx hb
  have hs5 := hb.size
  try simp only [World.size_alloc] at hs5
  replace L := bst L hb L.size
  clear hb
  have OXy := ho
  clear ho
  have c0x := Row.cell Rx 0
  have c1x := Row.cell Rx 1
  have c2x := Row.cell Rx 2
  have ltx := Row.lt Rx
  have c0Xx := Row.cell RXx 0
  have c1Xx := Row.cell RXx 1
  have c2Xx := Row.cell RXx 2
  have ltXx := Row.lt RXx
  go_wp2_with fail
  clear c0x c1x c2x ltx c0Xx c1Xx c2Xx ltXx
  refine (HI.out _ (.slice paXx nfx qaXx) (.slice pbXx nlx qbXx) (.slice pcXx nrx qcXx) (.slice pcXy ny qcXy) OXx.reads OXy.reads.r).mono ?_
  rintro e wG ⟨rfl, hb⟩
  replace Rx := Row.below Rx hb
  replace RXx := Row.below RXx hb
  replace OXx := OwnH.below OXx hb
  replace OXy := OwnH.below OXy hb
  have hs6 := hb.size
  try simp only [World.size_alloc] at hs6
  replace L := bst L hb L.size
  clear hb
  have c0x := Row.cell Rx 0
  have c1x := Row.cell Rx 1
  have c2x := Row.cell Rx 2
  have ltx := Row.lt Rx
  have c0Xx := Row.cell RXx 0
  have c1Xx := Row.cell RXx 1
  have c2Xx := Row.cell RXx 2
  have ltXx := Row.lt RXx
  go_wp2_with fail
  have RR0 : wG.drew.cell? ⟨w.heap.size, 0, none⟩ = some (.slice paAx nfx qaAx) := Row.cell Rx 0
  have RR1 : wG.drew.cell? ⟨w.heap.size, 1, none⟩ = some (.slice pbAx nlx qbAx) := Row.cell Rx 1
  have RR2 : wG.drew.cell? ⟨w.heap.size, 2, none⟩ = some (.slice pcAx nrx qcAx) := Row.cell Rx 2
  have RX0 : wG.drew.cell? ⟨wXx.heap.size, 0, none⟩ = some (.slice paXx nfx qaXx) := Row.cell RXx 0
  have RX1 : wG.drew.cell? ⟨wXx.heap.size, 1, none⟩ = some (.slice pbXx nlx qbXx) := Row.cell RXx 1
  have RX2 : wG.drew.cell? ⟨wXx.heap.size, 2, none⟩ = some (.slice pcXx nrx qcXx) := Row.cell RXx 2
  have BD := below_drew (Below.refl wG.heap.size wG)
  have IZ := Lib.hid (HeapAt.below HZx.out (below_drew L))
  have IX := Lib.hid (OXx.reads.below BD)
  clear c0x c1x c2x ltx c0Xx c1Xx c2Xx ltXx
  go_region_held3 (fun w' => w'.cell? ⟨w.heap.size, 0, none⟩ = some (.slice paAx nfx qaAx) ∧ w'.cell? ⟨w.heap.size, 1, none⟩ = some (.slice pbAx nlx qbAx) ∧ w'.cell? ⟨w.heap.size, 2, none⟩ = some (.slice pcAx nrx qcAx) ∧ w'.cell? ⟨wXx.heap.size, 0, none⟩ = some (.slice paXx nfx qaXx) ∧ w'.cell? ⟨wXx.heap.size, 1, none⟩ = some (.slice pbXx nlx qbXx) ∧ w'.cell? ⟨wXx.heap.size, 2, none⟩ = some (.slice pcXx nrx qcXx) ∧ Below wG.heap.size wG w')
    (first
      | (with_reducible exact ⟨RR0, RR1, RR2, RX0, RX1, RX2, BD⟩)
      | (go_split_ands
         exact ⟨cellBelow hbk (Nat.le_refl _) (by assumption), cellBelow hbk (Nat.le_refl _) (by assumption), cellBelow hbk (Nat.le_refl _) (by assumption), cellBelow hbk (Nat.le_refl _) (by assumption), cellBelow hbk (Nat.le_refl _) (by assumption), cellBelow hbk (Nat.le_refl _) (by assumption), bst (by assumption) hbk (Below.size (by assumption))⟩)
      | (go_split_ands; refine ⟨?_, ?_, ?_, ?_, ?_, ?_, ?_⟩ <;> assumption))
    (first
      | (go_at_call 71; refine (c_toHeap (.slice paAx nfx qaAx) (.slice pbAx nlx qbAx) (.slice pcAx nrx qcAx) hx _ IZ.out HMx.out).mono ?_; rintro e wxd1 ⟨aD, bD, cD, rfl, hoD, hbk⟩; have OD := Lib.hid hoD.reads; have XD := Lib.hid (IX.out.below hbk); clear hoD)
      | (go_at_call 72; refine (c_eqHeap _ _ _ _ _ _ hx _ XD.out OD.out HMx.out).mono ?_; rintro e wxd2 ⟨rfl, hbk⟩))
  have hb : Below wG.heap.size wG wxd2 := by go_split_ands; assumption
  clear OD XD IZ IX RR0 RX0 RR1 RX1 RR2 RX2 BD
  replace Rx := Row.below Rx hb
  replace RXx := Row.below RXx hb
  replace OXx := OwnH.below OXx hb
  replace OXy := OwnH.below OXy hb
  have hs7 := hb.size
  try simp only [World.size_alloc] at hs7
  replace L := bst L hb L.size
  clear hb
  have c0x := Row.cell Rx 0
  have c1x := Row.cell Rx 1
  have c2x := Row.cell Rx 2
  have ltx := Row.lt Rx
  have c0Xx := Row.cell RXx 0
  have c1Xx := Row.cell RXx 1
  have c2Xx := Row.cell RXx 2
  have ltXx := Row.lt RXx
  go_wp2_with fail
  clear c0x c1x c2x ltx c0Xx c1Xx c2Xx ltXx
  refine (c_toIntS (.slice pAy ny qAy) zy _ (IntsAt.below HZy.out L) (by rw [HNy.out]; exact HLy.out)).mono ?_
  rintro e wDy ⟨cDy, rfl, ho1, hb⟩
  have ho := OwnH.ofInts ho1 hb
  clear ho1
  try simp only [World.size_alloc] at ho
  have hsh := ho.shapes
  simp only [HNy.out] at hsh
  obtain ⟨_, _, ⟨pcDy, qcDy, rfl⟩⟩ := hsh
  replace Rx := Row.below Rx hb
  replace RXx := Row.below RXx hb
  replace OXx := OwnH.below OXx hb
  replace OXy := OwnH.below OXy hb
  have hs8 := hb.size
  try simp only [World.size_alloc] at hs8
  replace L := bst L hb L.size
  clear hb
  have ODy := ho
  clear ho
  have c0x := Row.cell Rx 0
  have c1x := Row.cell Rx 1
  have c2x := Row.cell Rx 2
  have ltx := Row.lt Rx
  have c0Xx := Row.cell RXx 0
  have c1Xx := Row.cell RXx 1
  have c2Xx := Row.cell RXx 2
  have ltXx := Row.lt RXx
  go_wp2_with fail
  clear c0x c1x c2x ltx c0Xx c1Xx c2Xx ltXx
  refine (c_eqIntS (.slice pcXy ny qcXy) (.slice pcDy ny qcDy) zy zy _ OXy.reads.r ODy.reads.r (by rw [HNy.out]; have := HLy.out; omega)).mono ?_
  rintro e wEy ⟨hre, nd, hnd⟩
  rw [decide_eq_true rfl] at hre
  subst hre
  have hb : Below wDy.heap.size wDy wEy := by rw [hnd]; exact below_drewN (Below.refl _ _) nd
  clear hnd nd
  replace Rx := Row.below Rx hb
  replace RXx := Row.below RXx hb
  replace OXx := OwnH.below OXx hb
  replace OXy := OwnH.below OXy hb
  replace ODy := OwnH.below ODy hb
  have hs9 := hb.size
  try simp only [World.size_alloc] at hs9
  replace L := bst L hb L.size
  clear hb
  clear ODy
  have c0x := Row.cell Rx 0
  have c1x := Row.cell Rx 1
  have c2x := Row.cell Rx 2
  have ltx := Row.lt Rx
  have c0Xx := Row.cell RXx 0
  have c1Xx := Row.cell RXx 1
  have c2Xx := Row.cell RXx 2
  have ltXx := Row.lt RXx
  go_wp2
  go_ret
  exact ⟨rfl, L⟩
set_option maxHeartbeats 1600000 in
set_option maxRecDepth 100000 in
theorem walk_FnExactIsSound (ax bx cx : Value) (hx : H) (vy : Value) (zy : List Int) (w : World) (hzx : HeapAt w ax bx cx hx) (hzy : IntsAt w vy zy) (hfx : FitH hx) (hny : zy.length ≤ 9223372036854775807) : Calls Try.prog 9 #[hv ax bx cx, vy] w fun e w' => e = .returned (.bool true) ∧ Below w.heap.size w w' := by
  by_cases hloy : 1048576 < zy.length
  · have HB0 := Lib.hid (below1 w (.cells (c3 ax bx cx) 68))
    obtain ⟨pA, qA, rfl⟩ := hzy.shape
    have hbl : (1048576 : Int) < (zy.length : Int) := by omega
    generalize zy.length = n at *
    go_enter Try.func9, Try.ntmps9
    go_wp2
    go_ret
    exact ⟨rfl, HB0.out⟩
  have hly : zy.length ≤ 1048576 := by omega
  clear hloy
  by_cases hm : wtH hx ≤ 1048576
  · exact core_FnExactIsSound ax bx cx hx vy zy (soundR hx zy) (bothB hx zy) w hzx hzy hm hly (fun w a b c v h q => s_IsSound a b c v hx zy w h q) (fun w a b c v h q => c_IsSound a b c v hx zy w h q)
  · have HB0 := Lib.hid (below1 w (.cells (c3 ax bx cx) 68))
    have HA0 := Lib.hid (hzx.below HB0.out)
    have HF := Lib.hid hfx
    have HMM : Hid ((1048576 : Int) < (wtH hx : Int)) := by unfold Hid; omega
    obtain ⟨pA, qA, rfl⟩ := hzy.shape
    generalize zy.length = n at *
    have hbl : ¬ ((1048576 : Int) < (n : Int)) := by omega
    obtain ⟨paA, qaA, rfl⟩ := hzx.f.shape
    obtain ⟨pbA, qbA, rfl⟩ := hzx.l.shape
    obtain ⟨pcA, qcA, rfl⟩ := hzx.r.shape
    have HC := Lib.hid (c_szHeap_no _ _ _ hx 1048576 _ HA0.out HF.out (by omega) (by omega) HMM.out)
    clear hzx HA0 hfx HF HMM hm
    generalize hx.f.length = nf at *
    generalize hx.l.length = nl at *
    generalize hx.r.length = nr at *
    go_enter Try.func9, Try.ntmps9
    go_wp2_with fail
    refine HC.out.mono ?_
    rintro e w1 ⟨rfl, hb1⟩
    have HB1 := Lib.hid (bst HB0.out hb1 HB0.out.size)
    clear hb1 HC
    go_wp2
    go_ret
    exact ⟨rfl, HB1.out⟩
end Go.Proofs.Ytdagkbgobnaijab
