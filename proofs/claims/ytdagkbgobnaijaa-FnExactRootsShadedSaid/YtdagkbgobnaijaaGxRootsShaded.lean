/- laws.FnExactRootsShaded: for every input the law answers true, and the input reads as it did. No condition. -/
import Derived.Test.YtdagkbgobnaijaaLift
import Derived.Test.YtdagkbgobnaijaaHl3
import Derived.Deep.Matrix
import Derived.Deep.Grids
import Derived.Test.YtdagkbgobnaijaaHl5
import Derived.Test.YtdagkbgobnaijaaGE
import Derived.Test.YtdagkbgobnaijaaCe1
namespace Go.Proofs.Ytdagkbgobnaijaa
open Go.ChangeShapes Go.WideShapes Go.ChangeAt Go.RowKit Ph

theorem r_heap : Try.prog.readableRec 26 = true ∧ 26 < Try.prog.types.size := ⟨by kernel_rfl, of_decide_eq_true (by kernel_rfl)⟩
theorem cellsIntsL : Try.prog.cellsOf 24 = 1 := by kernel_rfl
theorem cellsBool : Try.prog.cellsOf 4 = 1 := by kernel_rfl
theorem add_none (b off i : Nat) : (⟨b, off, none⟩ : Addr).add i = ⟨b, off + i, none⟩ := by simp [Addr.add]
theorem ints_cells {H : Type} {enc : TypeId × Value → H} {W : World} {fuel : Nat} {v : Value} {x : DataW H × List MemPlace} (h : DataW.trod enc Try.prog W 0 (fun _ => true) true fuel 24 [v] = some x) : ∃ zs, IntsAt W v zs ∧ zs.length ≤ 9223372036854775807 := by
  rcases open_ints Try.underlying24 Try.underlying3 cellsInt h with ⟨hcs, hx⟩ | ⟨a, len', cap', zs, hcs, _, hl, hm, hz, hx, hcell, hwz⟩
  · simp only [List.cons.injEq, and_true] at hcs
    subst hcs
    exact ⟨[], ⟨none, 0, rfl, fun h => absurd h (by simp)⟩, by simp⟩
  · simp only [List.cons.injEq, and_true] at hcs
    subst hcs
    simp only [if_true] at hz
    have hlen : (zs.take len').length = len' := by rw [List.length_take]; omega
    refine ⟨zs.take len', ⟨some a, cap', by rw [hlen], fun h0 => ?_⟩, by rw [hlen]; unfold maxLen at hm; omega⟩
    rw [hlen] at h0 ⊢
    obtain ⟨b, off, rfl, hc⟩ := ints_at hcell (by omega)
    refine ⟨b, off, rfl, fun i hi => ?_⟩
    rw [hc i (by omega)]
    simp [List.getD, hi]
theorem bools_cells {H : Type} {enc : TypeId × Value → H} {W : World} {fuel : Nat} {v : Value} {x : DataW H × List MemPlace} (h : DataW.trod enc Try.prog W 0 (fun _ => true) true fuel 23 [v] = some x) : ∃ bs, BoolsAt W v bs ∧ bs.length ≤ 9223372036854775807 := by
  rcases Deep.open_bools Try.underlying23 Try.underlying4 cellsBool h with ⟨hcs, hx⟩ | ⟨a, len, cap, B, hcs, _, hl, hm, hx, hcell⟩
  · simp only [List.cons.injEq, and_true] at hcs
    subst hcs
    exact ⟨[], ⟨none, 0, rfl, fun h => absurd h (by simp)⟩, by simp⟩
  · simp only [List.cons.injEq, and_true] at hcs
    subst hcs
    have hln : ((List.range len).map B).length = len := by simp
    refine ⟨(List.range len).map B, ⟨some a, cap, by rw [hln], fun h0 => ?_⟩, by rw [hln]; unfold maxLen at hm; omega⟩
    rw [hln] at h0 ⊢
    obtain ⟨b, off, spot⟩ := a
    have hspot : spot = none := by simpa [Addr.add] using World.cell?_spot (hcell 0 (by omega))
    subst hspot
    refine ⟨b, off, rfl, fun i hi => ?_⟩
    have h1 := hcell i (by omega)
    rw [add_none] at h1
    rw [h1]
    simp [List.getD, hi]
theorem rows_cells {H : Type} {enc : TypeId × Value → H} {W : World} {fuel : Nat} {v : Value} {x : DataW H × List MemPlace} (h : DataW.trod enc Try.prog W 0 (fun _ => true) true fuel 22 [v] = some x) : ∃ fs, RowsAt W v fs ∧ Fit fs ∧ fs.length ≤ 9223372036854775807 := by
  rcases Deep.open_int_rows Try.underlying22 Try.underlying24 Try.underlying3 cellsIntsL cellsInt h with ⟨hcs, hx⟩ | ⟨a, len, cap, A, L, C, Z, hcs, _, hl, hm, hx, hrow⟩
  · simp only [List.cons.injEq, and_true] at hcs
    subst hcs
    exact ⟨[], ⟨none, 0, rfl, fun h => absurd h (by simp)⟩, fun k hk => by simp at hk, by simp⟩
  · simp only [List.cons.injEq, and_true] at hcs
    subst hcs
    have hln : ((List.range len).map fun r => (Z r).take (L r)).length = len := by simp
    have hgd : ∀ i, i < len → ((List.range len).map fun r => (Z r).take (L r)).getD i [] = (Z i).take (L i) := fun i hi => by simp [List.getD, hi]
    have hlr : ∀ i, i < len → ((Z i).take (L i)).length = L i := fun i hi => by
      obtain ⟨_, h1, _, h2, _⟩ := hrow i (by omega)
      rw [List.length_take]; omega
    refine ⟨(List.range len).map fun r => (Z r).take (L r), ⟨some a, cap, by rw [hln], fun h0 => ?_⟩, fun k hk => ?_, by rw [hln]; unfold maxLen at hm; omega⟩
    · rw [hln] at h0 ⊢
      obtain ⟨b, off, spot⟩ := a
      have hspot : spot = none := by simpa [Addr.add] using World.cell?_spot (hrow 0 (by omega)).1
      subst hspot
      refine ⟨b, off, rfl, fun i hi => ?_⟩
      obtain ⟨q, h1, h2, h3, _, h5, h6⟩ := hrow i (by omega)
      rw [add_none] at q
      refine ⟨_, q, ?_⟩
      rw [hgd i hi]
      refine ⟨A i, C i, by rw [hlr i hi], fun hp => ?_⟩
      rw [hlr i hi] at hp ⊢
      cases hA : A i with
      | none => have := h5 hA; omega
      | some a' =>
        obtain ⟨_, hc⟩ := h6 a' hA
        obtain ⟨b', off', spot'⟩ := a'
        have hs' : spot' = none := by simpa [Addr.add] using World.cell?_spot (hc 0 (by omega))
        subst hs'
        refine ⟨b', off', rfl, fun j hj => ?_⟩
        have := hc j (by omega)
        rw [add_none] at this
        rw [this]
        simp [List.getD, hj]
    · rw [hln] at hk
      rw [hgd k hk, hlr k hk]
      obtain ⟨_, h1, h2, _⟩ := hrow k (by omega)
      unfold maxLen at h2; omega
set_option maxRecDepth 100000 in
theorem heap_of_arg {H : Type} {enc : TypeId × Value → H} {W : World} {base : Nat} {v : Value} {d : DataW H} {p : List MemPlace} (hval : Value.okWide Try.prog W .any base 26 v)
    (h : DataW.Trod enc Try.prog W 0 (fun _ => true) true 26 v d p) : ∃ (a b c : Value) (k : Ph.H), v = hv a b c ∧ HeapAt W a b c k ∧ FitH k := by
  obtain ⟨v0, v1, v2, y0, y1, y2, n, rfl, _, _, h0, h1, h2⟩ := Joins.open_agg3 Try.underlying26 (by kernel_rfl) (by kernel_rfl) hval h
  obtain ⟨fs, r1, r2, r3⟩ := rows_cells h0
  obtain ⟨bs, s1, s2⟩ := bools_cells h1
  obtain ⟨zs, t1, t2⟩ := ints_cells h2
  exact ⟨v0, v1, v2, ⟨fs, bs, zs⟩, rfl, ⟨r1, s1, t1⟩, ⟨r2, r3, s2, t2⟩⟩
set_option maxRecDepth 100000 in
theorem list_of_arg {H : Type} {enc : TypeId × Value → H} {W : World} {base : Nat} {v : Value} {d : DataW H} {p : List MemPlace} (hval : Value.okWide Try.prog W .any base 24 v)
    (h : DataW.Trod enc Try.prog W 0 (fun _ => true) true 24 v d p) : ∃ zs, IntsAt W v zs ∧ zs.length ≤ 9223372036854775807 := by
  obtain ⟨a0, len, cap, rfl⟩ := okWide_slice Try.underlying24 hval
  obtain ⟨fuel, hf⟩ := h
  exact ints_cells hf
end Go.Proofs.Ytdagkbgobnaijaa
namespace Go.Proofs.Ytdagkbgobnaijaa
open Go.RowKit Ph

set_option maxHeartbeats 12800000 in
set_option maxRecDepth 100000 in
theorem core_FnExactRootsShaded (ax bx cx : Value) (hx : H) (vy : Value) (zy : List Int) (b1 b2 : Bool) (w : World) (hzx : HeapAt w ax bx cx hx) (hzy : IntsAt w vy zy)  (hm : wtH hx ≤ 1048576) (hly : zy.length ≤ 1048576)
    (hS : ∀ (w : World) (ax bx cx : Value) (vy : Value), HeapAt w ax bx cx hx → IntsAt w vy zy → Calls Try.prog 52 #[hv ax bx cx, vy] w (fun e w' => e = .returned (.tuple #[.bool b1, .bool b2]) ∧ Below w.heap.size w w'))
    (hI : ∀ (w : World) (ax bx cx : Value) (vy : Value), HeapAt w ax bx cx hx → IntsAt w vy zy → Calls Try.prog 53 #[hv ax bx cx, vy] w (fun e w' => e = .returned (.tuple #[.bool b1, .bool b2]) ∧ Below w.heap.size w w')) :
    Calls Try.prog 11 #[hv ax bx cx, vy] w fun e w' => e = .returned (.bool true) ∧ Below w.heap.size w w' := by
  have HZx := Lib.hid hzx
  have HZy := Lib.hid hzy
  have HS := Lib.hid hS; have HI := Lib.hid hI
  clear hS hI
  obtain ⟨paAx, qaAx, rfl⟩ := hzx.f.shape
  obtain ⟨pbAx, qbAx, rfl⟩ := hzx.l.shape
  obtain ⟨pcAx, qcAx, rfl⟩ := hzx.r.shape
  obtain ⟨pAy, qAy, rfl⟩ := hzy.shape
  clear hzx
  clear hzy
  have HSZx : Hid (szM hx ≤ 1048576 ∧ hx.f.length ≤ 1048576) := by unfold Hid szM; have := hm; unfold wtH wt at this; omega
  have HLy := Lib.hid hly
  generalize hwtx : wtH hx = wtx at *
  have HWTx := Lib.hid hwtx; clear hwtx
  generalize hnnfx : hx.f.length = nfx at *
  have HNnfx := Lib.hid hnnfx; clear hnnfx
  generalize hnnlx : hx.l.length = nlx at *
  have HNnlx := Lib.hid hnnlx; clear hnnlx
  generalize hnnrx : hx.r.length = nrx at *
  have HNnrx := Lib.hid hnnrx; clear hnnrx
  generalize hszx : szM hx = szx at *
  have HSMx := Lib.hid hszx; clear hszx
  have HMx : Hid (wtH hx ≤ 1048576) := by unfold Hid; rw [HWTx.out]; omega
  generalize hny : zy.length = ny at *
  have HNy := Lib.hid hny; clear hny
  have hby : ¬ ((1048576 : Int) < (ny : Int)) := by omega
  have hl0x : ¬ ((1048576 : Int) - (wtx : Int)) < 0 := by omega
  have e1 : (b1 != b1) = false := by simp
  have e2 : (b2 != b2) = false := by simp
  have L := below1 w (.cells (c3 (.slice paAx nfx qaAx) (.slice pbAx nlx qbAx) (.slice pcAx nrx qcAx)) 26)
  have Rx : Row _ w.heap.size 26 (c3 (.slice paAx nfx qaAx) (.slice pbAx nlx qbAx) (.slice pcAx nrx qcAx)) := Row.new w _ _
  go_enter Try.func11, Try.ntmps11
  go_wp2_with fail
  refine (c_szHeap_yes (.slice paAx nfx qaAx) (.slice pbAx nlx qbAx) (.slice pcAx nrx qcAx) hx (1048576) _ (HeapAt.below HZx.out L) (by omega) (by rw [HWTx.out]; omega)).mono ?_
  rintro e wsx ⟨rfl, hb⟩
  rw [HWTx.out]
  replace Rx := Row.below Rx hb
  have hs0 := hb.size
  try simp only [World.size_alloc] at hs0
  replace L := bst L hb L.size
  clear hb
  have c0x := Row.cell Rx 0
  have c1x := Row.cell Rx 1
  have c2x := Row.cell Rx 2
  have ltx := Row.lt Rx
  go_wp2_with fail
  clear c0x c1x c2x ltx
  refine (c_toHeap (.slice paAx nfx qaAx) (.slice pbAx nlx qbAx) (.slice pcAx nrx qcAx) hx _ (HeapAt.below HZx.out L) HMx.out).mono ?_
  rintro e wsx1 ⟨asx, bsx, csx, rfl, ho, hb⟩
  try simp only [World.size_alloc] at ho
  have hsh := ho.shapes
  simp only [HNnfx.out, HNnlx.out, HNnrx.out] at hsh
  obtain ⟨⟨pasx, qasx, rfl⟩, ⟨pbsx, qbsx, rfl⟩, ⟨pcsx, qcsx, rfl⟩⟩ := hsh
  replace Rx := Row.below Rx hb
  have hs1 := hb.size
  try simp only [World.size_alloc] at hs1
  replace L := bst L hb L.size
  clear hb
  have Osx := ho
  clear ho
  have c0x := Row.cell Rx 0
  have c1x := Row.cell Rx 1
  have c2x := Row.cell Rx 2
  have ltx := Row.lt Rx
  go_wp2_with fail
  clear c0x c1x c2x ltx
  refine (c_toIntS (.slice pAy ny qAy) zy _ (IntsAt.below HZy.out L) (by rw [HNy.out]; exact HLy.out)).mono ?_
  rintro e wsy1 ⟨csy, rfl, ho1, hb⟩
  have ho := OwnH.ofInts ho1 hb
  clear ho1
  try simp only [World.size_alloc] at ho
  have hsh := ho.shapes
  simp only [HNy.out] at hsh
  obtain ⟨_, _, ⟨pcsy, qcsy, rfl⟩⟩ := hsh
  replace Rx := Row.below Rx hb
  replace Osx := OwnH.below Osx hb
  have hs2 := hb.size
  try simp only [World.size_alloc] at hs2
  replace L := bst L hb L.size
  clear hb
  have Osy := ho
  clear ho
  have c0x := Row.cell Rx 0
  have c1x := Row.cell Rx 1
  have c2x := Row.cell Rx 2
  have ltx := Row.lt Rx
  go_wp2_with fail
  clear c0x c1x c2x ltx
  refine (HS.out _ (.slice pasx nfx qasx) (.slice pbsx nlx qbsx) (.slice pcsx nrx qcsx) (.slice pcsy ny qcsy) Osx.reads Osy.reads.r).mono ?_
  rintro e wW ⟨rfl, hb⟩
  replace Rx := Row.below Rx hb
  replace Osx := OwnH.below Osx hb
  replace Osy := OwnH.below Osy hb
  have hs3 := hb.size
  try simp only [World.size_alloc] at hs3
  replace L := bst L hb L.size
  clear hb
  clear Osx
  clear Osy
  have c0x := Row.cell Rx 0
  have c1x := Row.cell Rx 1
  have c2x := Row.cell Rx 2
  have ltx := Row.lt Rx
  go_wp2_with fail
  clear c0x c1x c2x ltx
  refine (c_toHeap (.slice paAx nfx qaAx) (.slice pbAx nlx qbAx) (.slice pcAx nrx qcAx) hx _ (HeapAt.below HZx.out L) HMx.out).mono ?_
  rintro e wXx ⟨aXx, bXx, cXx, rfl, ho, hb⟩
  try simp only [World.size_alloc] at ho
  have hsh := ho.shapes
  simp only [HNnfx.out, HNnlx.out, HNnrx.out] at hsh
  obtain ⟨⟨paXx, qaXx, rfl⟩, ⟨pbXx, qbXx, rfl⟩, ⟨pcXx, qcXx, rfl⟩⟩ := hsh
  replace Rx := Row.below Rx hb
  have hs4 := hb.size
  try simp only [World.size_alloc] at hs4
  replace L := bst L hb L.size
  clear hb
  have OXx := ho
  clear ho
  have c0x := Row.cell Rx 0
  have c1x := Row.cell Rx 1
  have c2x := Row.cell Rx 2
  have ltx := Row.lt Rx
  go_wp2_with fail
  clear c0x c1x c2x ltx
  replace Rx := Row.alloc Rx (.cells (c3 (.slice paXx nfx qaXx) (.slice pbXx nlx qbXx) (.slice pcXx nrx qcXx)) 32)
  have RXx := Row.new wXx 32 (c3 (.slice paXx nfx qaXx) (.slice pbXx nlx qbXx) (.slice pcXx nrx qcXx))
  replace OXx := OwnH.below OXx (below1 _ (.cells (c3 (.slice paXx nfx qaXx) (.slice pbXx nlx qbXx) (.slice pcXx nrx qcXx)) 32))
  replace L := Below.alloc L L.size (.cells (c3 (.slice paXx nfx qaXx) (.slice pbXx nlx qbXx) (.slice pcXx nrx qcXx)) 32)
  refine (c_toIntS (.slice pAy ny qAy) zy _ (IntsAt.below HZy.out L) (by rw [HNy.out]; exact HLy.out)).mono ?_
  rintro e wXy ⟨cXy, rfl, ho1, hb⟩
  have ho := OwnH.ofInts ho1 hb
  clear ho1
  try simp only [World.size_alloc] at ho
  have hsh := ho.shapes
  simp only [HNy.out] at hsh
  obtain ⟨_, _, ⟨pcXy, qcXy, rfl⟩⟩ := hsh
  replace Rx := Row.below Rx hb
  replace RXx := Row.below RXx hb
  replace OXx := OwnH.below OXx hb
  have hs5 := hb.size
  try simp only [World.size_alloc] at hs5
  replace L := bst L hb L.size
  clear hb
  have OXy := ho
  clear ho
  have c0x := Row.cell Rx 0
  have c1x := Row.cell Rx 1
  have c2x := Row.cell Rx 2
  have ltx := Row.lt Rx
  have c0Xx := Row.cell RXx 0
  have c1Xx := Row.cell RXx 1
  have c2Xx := Row.cell RXx 2
  have ltXx := Row.lt RXx
  go_wp2_with fail
  clear c0x c1x c2x ltx c0Xx c1Xx c2Xx ltXx
  refine (HI.out _ (.slice paXx nfx qaXx) (.slice pbXx nlx qbXx) (.slice pcXx nrx qcXx) (.slice pcXy ny qcXy) OXx.reads OXy.reads.r).mono ?_
  rintro e wG ⟨rfl, hb⟩
  replace Rx := Row.below Rx hb
  replace RXx := Row.below RXx hb
  replace OXx := OwnH.below OXx hb
  replace OXy := OwnH.below OXy hb
  have hs6 := hb.size
  try simp only [World.size_alloc] at hs6
  replace L := bst L hb L.size
  clear hb
  have c0x := Row.cell Rx 0
  have c1x := Row.cell Rx 1
  have c2x := Row.cell Rx 2
  have ltx := Row.lt Rx
  have c0Xx := Row.cell RXx 0
  have c1Xx := Row.cell RXx 1
  have c2Xx := Row.cell RXx 2
  have ltXx := Row.lt RXx
  go_wp2_with fail
  have RR0 : wG.drew.cell? ⟨w.heap.size, 0, none⟩ = some (.slice paAx nfx qaAx) := Row.cell Rx 0
  have RR1 : wG.drew.cell? ⟨w.heap.size, 1, none⟩ = some (.slice pbAx nlx qbAx) := Row.cell Rx 1
  have RR2 : wG.drew.cell? ⟨w.heap.size, 2, none⟩ = some (.slice pcAx nrx qcAx) := Row.cell Rx 2
  have RX0 : wG.drew.cell? ⟨wXx.heap.size, 0, none⟩ = some (.slice paXx nfx qaXx) := Row.cell RXx 0
  have RX1 : wG.drew.cell? ⟨wXx.heap.size, 1, none⟩ = some (.slice pbXx nlx qbXx) := Row.cell RXx 1
  have RX2 : wG.drew.cell? ⟨wXx.heap.size, 2, none⟩ = some (.slice pcXx nrx qcXx) := Row.cell RXx 2
  have BD := below_drew (Below.refl wG.heap.size wG)
  have IZ := Lib.hid (HeapAt.below HZx.out (below_drew L))
  have IX := Lib.hid (OXx.reads.below BD)
  clear c0x c1x c2x ltx c0Xx c1Xx c2Xx ltXx
  go_region_held3 (fun w' => w'.cell? ⟨w.heap.size, 0, none⟩ = some (.slice paAx nfx qaAx) ∧ w'.cell? ⟨w.heap.size, 1, none⟩ = some (.slice pbAx nlx qbAx) ∧ w'.cell? ⟨w.heap.size, 2, none⟩ = some (.slice pcAx nrx qcAx) ∧ w'.cell? ⟨wXx.heap.size, 0, none⟩ = some (.slice paXx nfx qaXx) ∧ w'.cell? ⟨wXx.heap.size, 1, none⟩ = some (.slice pbXx nlx qbXx) ∧ w'.cell? ⟨wXx.heap.size, 2, none⟩ = some (.slice pcXx nrx qcXx) ∧ Below wG.heap.size wG w')
    (first
      | (with_reducible exact ⟨RR0, RR1, RR2, RX0, RX1, RX2, BD⟩)
      | (go_split_ands
         exact ⟨cellBelow hbk (Nat.le_refl _) (by assumption), cellBelow hbk (Nat.le_refl _) (by assumption), cellBelow hbk (Nat.le_refl _) (by assumption), cellBelow hbk (Nat.le_refl _) (by assumption), cellBelow hbk (Nat.le_refl _) (by assumption), cellBelow hbk (Nat.le_refl _) (by assumption), bst (by assumption) hbk (Below.size (by assumption))⟩)
      | (go_split_ands; refine ⟨?_, ?_, ?_, ?_, ?_, ?_, ?_⟩ <;> assumption))
    (first
      | (go_at_call 28; refine (c_toHeap (.slice paAx nfx qaAx) (.slice pbAx nlx qbAx) (.slice pcAx nrx qcAx) hx _ IZ.out HMx.out).mono ?_; rintro e wxd1 ⟨aD, bD, cD, rfl, hoD, hbk⟩; have OD := Lib.hid hoD.reads; have XD := Lib.hid (IX.out.below hbk); clear hoD)
      | (go_at_call 32; refine (c_eqHeap _ _ _ _ _ _ hx _ XD.out OD.out HMx.out).mono ?_; rintro e wxd2 ⟨rfl, hbk⟩))
  have hb : Below wG.heap.size wG wxd2 := by go_split_ands; assumption
  clear OD XD IZ IX RR0 RX0 RR1 RX1 RR2 RX2 BD
  replace Rx := Row.below Rx hb
  replace RXx := Row.below RXx hb
  replace OXx := OwnH.below OXx hb
  replace OXy := OwnH.below OXy hb
  have hs7 := hb.size
  try simp only [World.size_alloc] at hs7
  replace L := bst L hb L.size
  clear hb
  have c0x := Row.cell Rx 0
  have c1x := Row.cell Rx 1
  have c2x := Row.cell Rx 2
  have ltx := Row.lt Rx
  have c0Xx := Row.cell RXx 0
  have c1Xx := Row.cell RXx 1
  have c2Xx := Row.cell RXx 2
  have ltXx := Row.lt RXx
  go_wp2_with fail
  clear c0x c1x c2x ltx c0Xx c1Xx c2Xx ltXx
  refine (c_toIntS (.slice pAy ny qAy) zy _ (IntsAt.below HZy.out L) (by rw [HNy.out]; exact HLy.out)).mono ?_
  rintro e wDy ⟨cDy, rfl, ho1, hb⟩
  have ho := OwnH.ofInts ho1 hb
  clear ho1
  try simp only [World.size_alloc] at ho
  have hsh := ho.shapes
  simp only [HNy.out] at hsh
  obtain ⟨_, _, ⟨pcDy, qcDy, rfl⟩⟩ := hsh
  replace Rx := Row.below Rx hb
  replace RXx := Row.below RXx hb
  replace OXx := OwnH.below OXx hb
  replace OXy := OwnH.below OXy hb
  have hs8 := hb.size
  try simp only [World.size_alloc] at hs8
  replace L := bst L hb L.size
  clear hb
  have ODy := ho
  clear ho
  have c0x := Row.cell Rx 0
  have c1x := Row.cell Rx 1
  have c2x := Row.cell Rx 2
  have ltx := Row.lt Rx
  have c0Xx := Row.cell RXx 0
  have c1Xx := Row.cell RXx 1
  have c2Xx := Row.cell RXx 2
  have ltXx := Row.lt RXx
  go_wp2_with fail
  clear c0x c1x c2x ltx c0Xx c1Xx c2Xx ltXx
  refine (c_eqIntS (.slice pcXy ny qcXy) (.slice pcDy ny qcDy) zy zy _ OXy.reads.r ODy.reads.r (by rw [HNy.out]; have := HLy.out; omega)).mono ?_
  rintro e wEy ⟨hre, nd, hnd⟩
  rw [decide_eq_true rfl] at hre
  subst hre
  have hb : Below wDy.heap.size wDy wEy := by rw [hnd]; exact below_drewN (Below.refl _ _) nd
  clear hnd nd
  replace Rx := Row.below Rx hb
  replace RXx := Row.below RXx hb
  replace OXx := OwnH.below OXx hb
  replace OXy := OwnH.below OXy hb
  replace ODy := OwnH.below ODy hb
  have hs9 := hb.size
  try simp only [World.size_alloc] at hs9
  replace L := bst L hb L.size
  clear hb
  clear ODy
  have c0x := Row.cell Rx 0
  have c1x := Row.cell Rx 1
  have c2x := Row.cell Rx 2
  have ltx := Row.lt Rx
  have c0Xx := Row.cell RXx 0
  have c1Xx := Row.cell RXx 1
  have c2Xx := Row.cell RXx 2
  have ltXx := Row.lt RXx
  go_wp2
  go_ret
  exact ⟨rfl, L⟩
set_option maxHeartbeats 1600000 in
set_option maxRecDepth 100000 in
theorem walk_FnExactRootsShaded (ax bx cx : Value) (hx : H) (vy : Value) (zy : List Int) (w : World) (hzx : HeapAt w ax bx cx hx) (hzy : IntsAt w vy zy) (hfx : FitH hx) (hny : zy.length ≤ 9223372036854775807) : Calls Try.prog 11 #[hv ax bx cx, vy] w fun e w' => e = .returned (.bool true) ∧ Below w.heap.size w w' := by
  by_cases hloy : 1048576 < zy.length
  · have HB0 := Lib.hid (below1 w (.cells (c3 ax bx cx) 26))
    obtain ⟨pA, qA, rfl⟩ := hzy.shape
    have hbl : (1048576 : Int) < (zy.length : Int) := by omega
    generalize zy.length = n at *
    go_enter Try.func11, Try.ntmps11
    go_wp2
    go_ret
    exact ⟨rfl, HB0.out⟩
  have hly : zy.length ≤ 1048576 := by omega
  clear hloy
  by_cases hm : wtH hx ≤ 1048576
  · exact core_FnExactRootsShaded ax bx cx hx vy zy (rootsR hx zy) (bothB hx zy) w hzx hzy hm hly (fun w a b c v h q => s_RootsShaded a b c v hx zy w h q) (fun w a b c v h q => c_RootsShaded a b c v hx zy w h q)
  · have HB0 := Lib.hid (below1 w (.cells (c3 ax bx cx) 26))
    have HA0 := Lib.hid (hzx.below HB0.out)
    have HF := Lib.hid hfx
    have HMM : Hid ((1048576 : Int) < (wtH hx : Int)) := by unfold Hid; omega
    obtain ⟨pA, qA, rfl⟩ := hzy.shape
    generalize zy.length = n at *
    have hbl : ¬ ((1048576 : Int) < (n : Int)) := by omega
    obtain ⟨paA, qaA, rfl⟩ := hzx.f.shape
    obtain ⟨pbA, qbA, rfl⟩ := hzx.l.shape
    obtain ⟨pcA, qcA, rfl⟩ := hzx.r.shape
    have HC := Lib.hid (c_szHeap_no _ _ _ hx 1048576 _ HA0.out HF.out (by omega) (by omega) HMM.out)
    clear hzx HA0 hfx HF HMM hm
    generalize hx.f.length = nf at *
    generalize hx.l.length = nl at *
    generalize hx.r.length = nr at *
    go_enter Try.func11, Try.ntmps11
    go_wp2_with fail
    refine HC.out.mono ?_
    rintro e w1 ⟨rfl, hb1⟩
    have HB1 := Lib.hid (bst HB0.out hb1 HB0.out.size)
    clear hb1 HC
    go_wp2
    go_ret
    exact ⟨rfl, HB1.out⟩
end Go.Proofs.Ytdagkbgobnaijaa
namespace Go.Proofs.Ytdagkbgobnaijaa.xRootsShaded
open Go.ChangeShapes Go.WideShapes Go.ChangeAt Go.RowKit

set_option maxRecDepth 100000 in
theorem contract (H : Type) (enc : TypeId × Value → H) (W : World) (base : Nat) (args : Array Value) (ds gs : List (DataW H)) (before : List MemPlace)
    (hval : ∀ (j : Nat) t v, Try.f11.params[j]? = some t → args[j]? = some v → Value.okWide Try.prog W .any base t v)
    (hW : DataW.Whole enc Try.prog Try.f11.params.toList Rows.fnExactRootsShadedSpec.vars false W args.toList ds gs before) :
    Calls Try.prog 11 args W fun e W' => ∃ v, e = .returned v ∧ Rows.fnExactRootsShadedSpec.post enc Try.prog Try.f11 false true false false W args v W' := by
  have hW' := hW
  obtain ⟨p, q, hA0, hV, rfl, hfz, hnd⟩ := hW
  have hA : DataW.TrodAll enc Try.prog W 0 (fun _ => true) true Try.f11.params.toList args.toList ds p := hA0
  have hpar : ∀ t ∈ Try.f11.params.toList, Try.prog.readableRec t = true ∧ t < Try.prog.types.size := by
    rw [Try.params11]; intro t ht; simp at ht; rcases ht with rfl | rfl <;> first | exact r_heap | exact r_ints
  rw [Try.params11] at hA hval
  obtain ⟨v0, vs0, d0, ds0, p0, q0, hargs, rfl, rfl, h0, r0⟩ := trodAll_cons hA
  obtain ⟨v1, vs1, d1, ds1, p1, q1, rfl, rfl, rfl, h1, r1⟩ := trodAll_cons r0
  obtain ⟨rfl, rfl, rfl⟩ := trodAll_nil r1
  obtain rfl : args = #[v0, v1] := by cases args; simp_all
  obtain ⟨rfl, rfl⟩ := trodVars_none hV
  obtain ⟨fa0, fb0, fc0, z0, rfl, hz0, hn0⟩ := heap_of_arg (hval 0 26 v0 rfl rfl) h0
  obtain ⟨z1, hz1, hn1⟩ := list_of_arg (hval 1 24 v1 rfl rfl) h1
  refine (walk_FnExactRootsShaded fa0 fb0 fc0 z0 v1 z1 W hz0 hz1 hn0 hn1).mono fun e W' ⟨he, hb⟩ => ?_
  subst he
  exact ⟨_, rfl, law_post laidOut hpar (fun n hn => by cases hn) hW' hb rfl (by kernel_rfl) Try.underlying4⟩

set_option maxRecDepth 100000 in
theorem lifted (os : Os) (started : os.Started) (H : Type) (enc : TypeId × Value → H) :
    ReturnsInHanded {} Try.checked os 11 .any (Rows.fnExactRootsShadedSpec.pre6 enc Try.prog Try.f11 Rows.fnExactRootsShadedRow.domain false) (Rows.fnExactRootsShadedSpec.post enc Try.prog Try.f11 false true false false) := by
  refine returnsInHanded_of_change (C := Try.checked) own started (by kernel_rfl) Try.func11
    (ChangeSpec.witness6 (enc := enc) (C := Try.checked) false ⟨#[], #[.agg #[.slice none 0 0, .slice none 0 0, .slice none 0 0], .slice none 0 0], []⟩ 8 (by kernel_rfl) (by kernel_rfl) (by kernel_rfl) (by kernel_rfl)) ?_
  intro W base args ds gs before hval hW _ _
  exact contract H enc W base args ds gs before hval hW
end Go.Proofs.Ytdagkbgobnaijaa.xRootsShaded
namespace Go.Proofs.Ytdagkbgobnaijaa
theorem xRootsShaded_said : Rows.FnExactRootsShadedSaid :=
  OpenClaim.holds_of_wide 11 Try.f11 rfl rfl rfl rfl rfl rfl rfl ⟨rfl, rfl, rfl, rfl, rfl⟩ rfl rfl rfl rfl rfl (by kernel_rfl) Try.func11 (by kernel_rfl)
    (of_decide_eq_true (by kernel_rfl)) (by unfold Func.isWrapper; first | (rw [if_pos (by decide +kernel)]; kernel_rfl) | (rw [if_neg (by decide +kernel)]; exact ⟨rfl, rfl⟩))
    (fun os started H enc _ => xRootsShaded.lifted os started H enc)
end Go.Proofs.Ytdagkbgobnaijaa
